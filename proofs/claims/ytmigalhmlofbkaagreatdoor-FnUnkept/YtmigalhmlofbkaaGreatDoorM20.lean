/- A part of the proof. -/
import Derived.Test.YtmigalhmlofbkaaGreatDoorM7
import Derived.Laws.EntriesVeiled
import Derived.Deep.RegionWith
set_option linter.unusedVariables false
set_option maxRecDepth 10000
set_option maxHeartbeats 2000000
namespace Go.Proofs.YtmigalhmlofbkaaGreatDoor
open Go.ChangeShapes Go.WideShapes Go.ChangeAt Go.RowKit
theorem implState (x t d:Int) (f:Bool) (r:Int) (w:World) :
  Calls Tryz.prog 175 #[congVal x t d f r] w fun e w'=>e=.returned (.int .i64 (if f then 2 else if x<t then 0 else 1))∧∃ y:Array Value,w'=w.alloc (.cells y 37):=by
 unfold congVal
 cases f
 ·by_cases h:x<t
  ·simp only [h,if_true,Bool.false_eq_true,if_false]
   go_enter Tryz.func175,Tryz.ntmps175
   go_wp2
   go_ret
   exact ⟨rfl,_,rfl⟩
  ·simp only [h,if_false,Bool.false_eq_true,if_false]
   go_enter Tryz.func175,Tryz.ntmps175
   go_wp2
   go_ret
   exact ⟨rfl,_,rfl⟩
 ·simp only [if_true]
  go_enter Tryz.func175,Tryz.ntmps175
  go_wp2
  go_ret
  exact ⟨rfl,_,rfl⟩
theorem stepsQuick (x t d:Int) (f:Bool) (r:Int) (hf:f=false) (hx:x<t) (w:World) :
  Calls Tryz.prog 163 #[congVal x t d f r] w fun e w'=>e=.returned (.agg #[.func (.func 170) #[] #[],.func (.func 171) #[] #[]])∧Since w w':=by
 subst hf
 have hs:=fun wx=>implState x t d false r wx
 simp only [hx,if_true,Bool.false_eq_true,if_false] at hs
 unfold congVal at *
 go_enter Tryz.func163,Tryz.ntmps163
 go_wp2_with (go_at_call 175;refine (hs _).mono ?_;rintro _ _ ⟨rfl,y,rfl⟩)
 refine bodyPost_ret (v:=.agg #[.func (.func 170) #[] #[],.func (.func 171) #[] #[]]) ?_ rfl ⟨rfl,by repeat (first|exact Since.refl _|apply Since.drew|apply Since.alloc)⟩
 simp [results,go_sem]
theorem stepsSlow (x t d:Int) (f:Bool) (r:Int) (hf:f=false) (hx:¬ x<t) (w:World) :
  Calls Tryz.prog 163 #[congVal x t d f r] w fun e w'=>e=.returned (.agg #[.func (.func 172) #[] #[],.func (.func 171) #[] #[]])∧Since w w':=by
 subst hf
 have hs:=fun wx=>implState x t d false r wx
 simp only [hx,Bool.false_eq_true,if_false] at hs
 unfold congVal at *
 go_enter Tryz.func163,Tryz.ntmps163
 go_wp2_with (go_at_call 175;refine (hs _).mono ?_;rintro _ _ ⟨rfl,y,rfl⟩)
 refine bodyPost_ret (v:=.agg #[.func (.func 172) #[] #[],.func (.func 171) #[] #[]]) ?_ rfl ⟨rfl,by repeat (first|exact Since.refl _|apply Since.drew|apply Since.alloc)⟩
 simp [results,go_sem]
theorem stepsMend (x t d:Int) (f:Bool) (r:Int) (hf:f=true) (w:World) :
  Calls Tryz.prog 163 #[congVal x t d f r] w fun e w'=>e=.returned (.agg #[.func (.func 173) #[] #[],.func (.func 174) #[] #[]])∧Since w w':=by
 subst hf
 have hs:=fun wx=>implState x t d true r wx
 simp only [if_true] at hs
 unfold congVal at *
 go_enter Tryz.func163,Tryz.ntmps163
 go_wp2_with (go_at_call 175;refine (hs _).mono ?_;rintro _ _ ⟨rfl,y,rfl⟩)
 refine bodyPost_ret (v:=.agg #[.func (.func 173) #[] #[],.func (.func 174) #[] #[]]) ?_ rfl ⟨rfl,by repeat (first|exact Since.refl _|apply Since.drew|apply Since.alloc)⟩
 simp [results,go_sem]
theorem ackedQuickly (x t d:Int) (f:Bool) (r n b:Int) (h0:100≤x) (h1:x≤8000) (h2:0≤n) (h3:n≤8000) (w:World) :
  Calls Tryz.prog 170 #[congVal x t d f r,.int .i64 n,.int .u32 b] w fun e w'=>e=.returned (.tuple #[congVal (min (x+min n 100) 8000) t 0 f r,.bool false])∧Since w w':=by
 have hs:=fun wx=>implGrown x t d f r (min n 100) (by omega) h1 (by omega) (by omega) wx
 rw [show min (max (x+min n 100) 100) 8000=min (x+min n 100) 8000 by omega] at hs
 generalize min (x+min n 100) 8000=m at hs ⊢
 unfold congVal at *
 by_cases hn:n≤100
 ·rw [show min n 100=n by omega] at hs
  go_enter Tryz.func170,Tryz.ntmps170
  go_wp2_with (go_at_call 177;refine (hs _).mono ?_;rintro _ _ ⟨rfl,p,q,y,z,rfl⟩)
  refine bodyPost_ret (v:=.tuple #[.agg #[.int .i64 m,.int .i64 t,.int .i64 0,.bool f,.int .u32 r],.bool false]) ?_ rfl ⟨rfl,by repeat (first|exact Since.refl _|apply Since.drew|apply Since.alloc)⟩
  simp [results,go_sem]
 ·rw [show min n 100=100 by omega] at hs
  go_enter Tryz.func170,Tryz.ntmps170
  go_wp2_with (go_at_call 177;refine (hs _).mono ?_;rintro _ _ ⟨rfl,p,q,y,z,rfl⟩)
  refine bodyPost_ret (v:=.tuple #[.agg #[.int .i64 m,.int .i64 t,.int .i64 0,.bool f,.int .u32 r],.bool false]) ?_ rfl ⟨rfl,by repeat (first|exact Since.refl _|apply Since.drew|apply Since.alloc)⟩
  simp [results,go_sem]
theorem quo_bounds (x:Int) (h0:100≤x) (h1:x≤8000):1≤10000 / x∧10000 / x≤100:=by
 have hq0:0≤10000 / x:=Int.ediv_nonneg (by omega) (by omega)
 have h4:10000 / x*x≤10000:=Int.ediv_mul_le _ (by omega)
 have h5:10000 / x*100≤10000 / x*x:=Int.mul_le_mul_of_nonneg_left h0 hq0
 refine ⟨?_,by omega⟩
 exact (Int.le_ediv_iff_mul_le (by omega)).2 (by omega)
theorem ackedSlowly (x t d:Int) (f:Bool) (r n b:Int) (h0:100≤x) (h1:x≤8000) (w:World) :
  Calls Tryz.prog 172 #[congVal x t d f r,.int .i64 n,.int .u32 b] w fun e w'=>e=.returned (.tuple #[congVal (min (x+10000 / x) 8000) t 0 f r,.bool false])∧Since w w':=by
 obtain ⟨hq0,hq1⟩:=quo_bounds x h0 h1
 have hs:=fun wx=>implGrown x t d f r (10000 / x) (by omega) h1 (by omega) (by omega) wx
 rw [show min (max (x+10000 / x) 100) 8000=min (x+10000 / x) 8000 by omega] at hs
 generalize min (x+10000 / x) 8000=m at hs ⊢
 have hw:IntKind.i64.wrap (Int.tdiv 10000 x)=10000 / x:=by
  rw [Int.tdiv_eq_ediv_of_nonneg (by omega),IntWalk.i64_left]
  exact IntWalk.wrap64_in _ ⟨by omega,by omega⟩
 generalize 10000 / x=o at hs hw hq0 hq1
 unfold congVal at *
 go_enter Tryz.func172,Tryz.ntmps172
 go_wp2_with (fail)
 have hx0:¬ x=0:=by omega
 go_region_with (go_at_call_of 177 (Value.int IntKind.i64 o);refine (hs _).mono ?_;rintro _ _ ⟨rfl,p,q,y,z,rfl⟩)
 all_goals go_wp2
 all_goals refine bodyPost_ret (v:=.tuple #[.agg #[.int .i64 m,.int .i64 t,.int .i64 0,.bool f,.int .u32 r],.bool false]) ?_ rfl ⟨rfl,by repeat (first|exact Since.refl _|apply Since.drew|apply Since.alloc)⟩
 all_goals simp [results,go_sem]
theorem ackedMending (x t d:Int) (f:Bool) (r n b s:Int) (hr:IsWord r) (hb:IsWord b) (hd:IsDist r b s) (h0:100≤x) (h1:x≤8000) (h2:0≤n) (h3:n≤8000) (h4:200≤t) (h5:t≤8000) (w:World) :
  Calls Tryz.prog 173 #[congVal x t d f r,.int .i64 n,.int .u32 b] w fun e w'=>e=.returned (.tuple #[congVal (if decide (0≤s) then t else min (max (x - n+100) 100) 8000) t (if decide (0≤s) then 0 else d) (if decide (0≤s) then false else f) r,.bool (!decide (0≤s))])∧Since w w':=by
 have hl:=fun wx=>implLessEq r b s hr hb hd wx
 clear hd
 generalize decide (0≤s)=le at hl ⊢
 cases le
 ·simp only [Bool.false_eq_true,if_false,Bool.not_false]
  have hs:=fun wx=>implSized x t d f r (x - n+100) wx
  generalize min (max (x - n+100) 100) 8000=m at hs ⊢
  unfold congVal at *
  go_enter Tryz.func173,Tryz.ntmps173
  go_wp2_with (first|(go_at_call 91;refine (hl _).mono ?_;rintro _ _ ⟨rfl,rfl⟩)|(go_at_call 179;refine (hs _).mono ?_;rintro _ _ ⟨rfl,y,z,rfl⟩))
  refine bodyPost_ret (v:=.tuple #[.agg #[.int .i64 m,.int .i64 t,.int .i64 d,.bool f,.int .u32 r],.bool true]) ?_ rfl ⟨rfl,by repeat (first|exact Since.refl _|apply Since.drew|apply Since.alloc)⟩
  simp [results,go_sem]
 ·simp only [if_true,Bool.not_true]
  have hs:=fun wx=>implSized x t 0 false r t wx
  rw [show min (max t 100) 8000=t by omega] at hs
  unfold congVal at *
  go_enter Tryz.func173,Tryz.ntmps173
  go_wp2_with (first|(go_at_call 91;refine (hl _).mono ?_;rintro _ _ ⟨rfl,rfl⟩)|(go_at_call 179;refine (hs _).mono ?_;rintro _ _ ⟨rfl,y,z,rfl⟩))
  refine bodyPost_ret (v:=.tuple #[.agg #[.int .i64 t,.int .i64 t,.int .i64 0,.bool false,.int .u32 r],.bool false]) ?_ rfl ⟨rfl,by repeat (first|exact Since.refl _|apply Since.drew|apply Since.alloc)⟩
  simp [results,go_sem]
theorem dupedMending (x t d:Int) (f:Bool) (r n b:Int) (h0:100≤x) (h1:x≤8000) (w:World) :
  Calls Tryz.prog 174 #[congVal x t d f r,.int .i64 n,.int .u32 b] w fun e w'=>e=.returned (.tuple #[congVal (min (x+100) 8000) t d f r,.bool false])∧Since w w':=by
 have hs:=fun wx=>implSized x t d f r (x+100) wx
 rw [show min (max (x+100) 100) 8000=min (x+100) 8000 by omega] at hs
 generalize min (x+100) 8000=m at hs ⊢
 unfold congVal at *
 go_enter Tryz.func174,Tryz.ntmps174
 go_wp2_with (go_at_call 179;refine (hs _).mono ?_;rintro _ _ ⟨rfl,y,z,rfl⟩)
 refine bodyPost_ret (v:=.tuple #[.agg #[.int .i64 m,.int .i64 t,.int .i64 d,.bool f,.int .u32 r],.bool false]) ?_ rfl ⟨rfl,by repeat (first|exact Since.refl _|apply Since.drew|apply Since.alloc)⟩
 simp [results,go_sem]
theorem dupedThird (x t d:Int) (f:Bool) (r n b:Int) (h2:0≤n) (h3:n≤8000) (h4:d=2) (w:World) :
  Calls Tryz.prog 171 #[congVal x t d f r,.int .i64 n,.int .u32 b] w fun e w'=>e=.returned (.tuple #[congVal (max (n / 2) 200+300) (max (n / 2) 200) 3 true b,.bool true])∧Since w w':=by
 have hh:=fun wx=>implHalved n h2 h3 wx
 have hs:=fun wx=>implSized x (max (n / 2) 200) 3 true b (max (n / 2) 200+300) wx
 rw [show min (max (max (n / 2) 200+300) 100) 8000=max (n / 2) 200+300 by omega] at hs
 have m0:200≤max (n / 2) 200:=by omega
 have m1:max (n / 2) 200≤4000:=by omega
 generalize max (n / 2) 200=m at hs hh m0 m1 ⊢
 subst h4
 unfold congVal at *
 go_enter Tryz.func171,Tryz.ntmps171
 go_wp2_with (first|(go_at_call 178;refine (hh _).mono ?_;rintro _ _ ⟨rfl,rfl⟩)|(go_at_call 179;refine (hs _).mono ?_;rintro _ _ ⟨rfl,y,z,rfl⟩))
 refine bodyPost_ret (v:=.tuple #[.agg #[.int .i64 (m+300),.int .i64 m,.int .i64 3,.bool true,.int .u32 b],.bool true]) ?_ rfl ⟨rfl,by repeat (first|exact Since.refl _|apply Since.drew|apply Since.alloc)⟩
 simp [results,go_sem]
theorem dupedOther (x t d:Int) (f:Bool) (r n b:Int) (h2:0≤d) (h3:d≤1000000) (h4:¬ d=2) (w:World) :
  Calls Tryz.prog 171 #[congVal x t d f r,.int .i64 n,.int .u32 b] w fun e w'=>e=.returned (.tuple #[congVal x t (min (d+1) 1000000) f r,.bool false])∧Since w w':=by
 unfold congVal
 by_cases hd:d<1000000
 ·rw [show min (d+1) 1000000=d+1 by omega]
  have h5:¬ d+1=3:=by omega
  go_enter Tryz.func171,Tryz.ntmps171
  go_wp2
  refine bodyPost_ret (v:=.tuple #[.agg #[.int .i64 x,.int .i64 t,.int .i64 (d+1),.bool f,.int .u32 r],.bool false]) ?_ rfl ⟨rfl,by repeat (first|exact Since.refl _|apply Since.drew|apply Since.alloc)⟩
  simp [results,go_sem]
 ·rw [show min (d+1) 1000000=1000000 by omega]
  go_enter Tryz.func171,Tryz.ntmps171
  go_wp2
  refine bodyPost_ret (v:=.tuple #[.agg #[.int .i64 x,.int .i64 t,.int .i64 1000000,.bool f,.int .u32 r],.bool false]) ?_ rfl ⟨rfl,by repeat (first|exact Since.refl _|apply Since.drew|apply Since.alloc)⟩
  simp [results,go_sem]
theorem stored5 {b:Nat} {x:World} {c0 c1 c2 c3 c4:Value} (B:Blk b x #[c0,c1,c2,c3,c4]) (v0 v1 v2 v3 v4:Value) :
  ∃ y,((((x.setCell ⟨b,0,none⟩ v0).setCell ⟨b,1,none⟩ v1).setCell ⟨b,2,none⟩ v2).setCell ⟨b,3,none⟩ v3).setCell ⟨b,4,none⟩ v4=y∧Touch b x y∧Blk b y #[v0,v1,v2,v3,v4]:=by
 have k:=((((B.put 0 v0 (by simp)).put 1 v1 (by simp)).put 2 v2 (by simp)).put 3 v3 (by simp)).put 4 v4 (by simp)
 exact ⟨_,rfl,(((((Touch.refl b x).put 0 v0).put 1 v1).put 2 v2).put 3 v3).put 4 v4,by simpa using k⟩
theorem implAckNot (x t d:Int) (f:Bool) (r n b:Int) (hk:(congOk x t d && decide (0≤n∧n≤8000))=false) (w:World) :
  Calls Tryz.prog 141 #[congVal x t d f r,.int .i64 n,.int .u32 b] w fun e w'=>e=.returned (.tuple #[congVal x t d f r,.bool false])∧Since w w':=by
 have ho:=fun wx=>implCongOk x t d f r wx
 have hu:=fun wx=>isUnderWay n wx
 generalize congOk x t d=k at ho hk
 generalize decide (0≤n∧n≤8000)=u at hu hk
 unfold congVal at *
 cases k
 ·clear hu hk
  go_enter Tryz.func141,Tryz.ntmps141
  go_wp2_with (go_at_call 89;refine (ho _).mono ?_;rintro _ _ ⟨rfl,rfl⟩)
  refine bodyPost_ret (v:=.tuple #[.agg #[.int .i64 x,.int .i64 t,.int .i64 d,.bool f,.int .u32 r],.bool false]) ?_ rfl ⟨rfl,by repeat (first|exact Since.refl _|apply Since.drew|apply Since.alloc)⟩
  simp [results,go_sem]
 ·obtain rfl:u=false:=by simpa using hk
  clear hk
  go_enter Tryz.func141,Tryz.ntmps141
  go_wp2_with (first|(go_at_call 89;refine (ho _).mono ?_;rintro _ _ ⟨rfl,rfl⟩)|(go_at_call 162;refine (hu _).mono ?_;rintro _ _ ⟨rfl,rfl⟩))
  refine bodyPost_ret (v:=.tuple #[.agg #[.int .i64 x,.int .i64 t,.int .i64 d,.bool f,.int .u32 r],.bool false]) ?_ rfl ⟨rfl,by repeat (first|exact Since.refl _|apply Since.drew|apply Since.alloc)⟩
  simp [results,go_sem]
theorem implAckBy (x t d:Int) (f:Bool) (r n b:Int) (hk:(congOk x t d && decide (0≤n∧n≤8000))=true) (p q:FuncId)
  (hst:∀ wx,Calls Tryz.prog 163 #[congVal x t d f r] wx fun e w'=>e=.returned (.agg #[.func (.func p) #[] #[],.func (.func q) #[] #[]])∧Since wx w') (X T D:Int) (F B:Bool) (R:Int)
  (hrun:∀ args wx,(callFunc p args).run Tryz.prog wx=.ok (.enter p args) wx) (hcl:∀ wx,Calls Tryz.prog p #[congVal x t d f r,.int .i64 n,.int .u32 b] wx fun e w'=>e=.returned (.tuple #[congVal X T D F R,.bool B])∧Since wx w') (w:World) :
  Calls Tryz.prog 141 #[congVal x t d f r,.int .i64 n,.int .u32 b] w fun e w'=>e=.returned (.tuple #[congVal X T D F R,.bool B])∧Since w w':=by
 have hfld:∀ (u v:Value) (wx:World),(Instr.field 199 (.agg #[u,v]) 0).run Tryz.prog wx=.ok u wx:=fun _ _ _=>by kernel_rfl
 have ho:=fun wx=>implCongOk x t d f r wx
 have hu:=fun wx=>isUnderWay n wx
 simp only [Bool.and_eq_true] at hk
 rw [hk.1] at ho
 rw [hk.2] at hu
 clear hk
 unfold congVal at *
 have A0:=(Blk.new w #[.int .i64 x,.int .i64 t,.int .i64 d,.bool f,.int .u32 r] 37)
 go_enter Tryz.func141,Tryz.ntmps141
 go_wp2_with (first|(go_at_call 89;refine (ho _).mono ?_;rintro _ _ ⟨rfl,rfl⟩)|(go_at_call 162;refine (hu _).mono ?_;rintro _ _ ⟨rfl,rfl⟩))
 have g1:Since (w.alloc (.cells #[.int .i64 x,.int .i64 t,.int .i64 d,.bool f,.int .u32 r] 37)) (((w.alloc (.cells #[.int .i64 x,.int .i64 t,.int .i64 d,.bool f,.int .u32 r] 37)).alloc (.cells #[.int .i64 0,.int .i64 0,.int .i64 0,.bool false,.int .u32 0] 37)).alloc (.cells #[.int .i64 x,.int .i64 t,.int .i64 d,.bool f,.int .u32 r] 37)):=by repeat (first|exact Since.refl _|apply Since.drew|apply Since.alloc)
 have A:=A0.since g1
 have Z:=(Blk.new (w.alloc (.cells #[.int .i64 x,.int .i64 t,.int .i64 d,.bool f,.int .u32 r] 37)) #[.int .i64 0,.int .i64 0,.int .i64 0,.bool false,.int .u32 0] 37).since ((Since.refl _).alloc (.cells #[.int .i64 x,.int .i64 t,.int .i64 d,.bool f,.int .u32 r] 37))
 have G:Since w (((w.alloc (.cells #[.int .i64 x,.int .i64 t,.int .i64 d,.bool f,.int .u32 r] 37)).alloc (.cells #[.int .i64 0,.int .i64 0,.int .i64 0,.bool false,.int .u32 0] 37)).alloc (.cells #[.int .i64 x,.int .i64 t,.int .i64 d,.bool f,.int .u32 r] 37)):=by repeat (first|exact Since.refl _|apply Since.drew|apply Since.alloc)
 clear A0 g1
 simp at Z
 generalize (((w.alloc (.cells #[.int .i64 x,.int .i64 t,.int .i64 d,.bool f,.int .u32 r] 37)).alloc (.cells #[.int .i64 0,.int .i64 0,.int .i64 0,.bool false,.int .u32 0] 37)).alloc (.cells #[.int .i64 x,.int .i64 t,.int .i64 d,.bool f,.int .u32 r] 37))=w1 at A Z G ⊢
 refine wp_region_tail (wb:=w1) 9 (fun i y v=>match i with
   | 0=>v=.agg #[.int .i64 x,.int .i64 t,.int .i64 d,.bool f,.int .u32 r]
   | 1=>v=.agg #[.func (.func p) #[] #[],.func (.func q) #[] #[]]
   | 2=>v=.func (.func p) #[] #[]
   | 3=>v=.agg #[.int .i64 x,.int .i64 t,.int .i64 d,.bool f,.int .u32 r]
   | 4=>v=.int .i64 n
   | 5=>v=.int .u32 b
   | 6=>v=.tuple #[.agg #[.int .i64 X,.int .i64 T,.int .i64 D,.bool F,.int .u32 R],.bool B]
   | 7=>v=.agg #[.int .i64 X,.int .i64 T,.int .i64 D,.bool F,.int .u32 R]
   | 8=>v=.bool B
   | _=>True) (fun v=>{tmps:=#[Value.agg #[Value.int IntKind.i64 x,Value.int IntKind.i64 t,Value.int IntKind.i64 d,Value.bool f,Value.int IntKind.u32 r],Value.int IntKind.i64 n,Value.int IntKind.u32 b,Value.pointer (some ⟨w.heap.size,0,none⟩),undef,undef,Value.pointer (some ⟨w.heap.size+1,0,none⟩),Value.bool false,Value.agg #[Value.int IntKind.i64 x,Value.int IntKind.i64 t,Value.int IntKind.i64 d,Value.bool f,Value.int IntKind.u32 r],Value.bool true,Value.bool false,Value.bool false,Value.int IntKind.i64 n,Value.bool true,Value.bool false,Value.bool false,undef,v 0,v 1,v 2,v 3,v 4,v 5,v 6,v 7,v 8],defers:=[]}) (by kernel_rfl) (by kernel_rfl) (by kernel_rfl) (Since.refl _) ?_ (fun vals=>by kernel_rfl) ?_ ?_
 case refine_1=>
  intro j x x' v h1 h2
  match j,h2 with
  | 0,h2|1,h2|2,h2|3,h2|4,h2|5,h2|6,h2|7,h2|8,h2=>exact h2
  | n+9,_=>trivial
 case refine_2=>
  repeat (first|exact eachDoes_nil|refine eachDoes_cons ?_ ?_)
  all_goals intro vals y hy hv
  all_goals simp [Region.binds] at hv
  ·simp [does,doesUpon,go_sem,hv,Since.refl]
  ·simp [does,doesUpon,go_sem,hv,Since.refl]
  ·simp [does,doesUpon,go_sem,hv,hrun]
   refine (hcl y).mono ?_
   rintro _ y' ⟨rfl,h1⟩
   simp [h1]
  ·simp [does,doesUpon,go_sem,Since.refl]
  ·simp [does,doesUpon,go_sem,Since.refl]
  ·have e0:=(A.since hy).cell 0
   have e1:=(A.since hy).cell 1
   have e2:=(A.since hy).cell 2
   have e3:=(A.since hy).cell 3
   have e4:=(A.since hy).cell 4
   simp at e0 e1 e2 e3 e4
   simp [does,doesUpon,go_sem,e0,e1,e2,e3,e4,Since.refl]
  ·simp [does,doesUpon,go_sem,hv,hfld,Since.refl]
  ·simp [does,doesUpon,go_sem,hv]
   refine (hst y).mono ?_
   rintro _ y' ⟨rfl,h1⟩
   simp [h1]
  ·have e0:=(A.since hy).cell 0
   have e1:=(A.since hy).cell 1
   have e2:=(A.since hy).cell 2
   have e3:=(A.since hy).cell 3
   have e4:=(A.since hy).cell 4
   simp at e0 e1 e2 e3 e4
   simp [does,doesUpon,go_sem,e0,e1,e2,e3,e4,Since.refl]
 case refine_3=>
  intro vals y hy hv
  have h7:vals 7=_:=hv 7 (by decide)
  have h8:vals 8=_:=hv 8 (by decide)
  clear hv
  simp only [h7,h8]
  clear h7 h8
  replace Z:=Z.since hy
  have b0:=Z.cell 0
  have b1:=Z.cell 1
  have b2:=Z.cell 2
  have b3:=Z.cell 3
  have b4:=Z.cell 4
  simp at b0 b1 b2 b3 b4
  have f0:=Z.fz 0
  have f1:=Z.fz 1
  have f2:=Z.fz 2
  have f3:=Z.fz 3
  have f4:=Z.fz 4
  obtain ⟨z,hz,tz,Bz⟩:=stored5 Z (.int .i64 X) (.int .i64 T) (.int .i64 D) (.bool F) (.int .u32 R)
  go_wp2_with (fail)
  have c0:=Bz.cell 0
  have c1:=Bz.cell 1
  have c2:=Bz.cell 2
  have c3:=Bz.cell 3
  have c4:=Bz.cell 4
  simp at c0 c1 c2 c3 c4
  clear b0 b1 b2 b3 b4 f0 f1 f2 f3 f4 hz
  refine bodyPost_ret (v:=.tuple #[.agg #[.int .i64 X,.int .i64 T,.int .i64 D,.bool F,.int .u32 R],.bool B]) ?_ rfl ⟨rfl,since_touch (G.trans hy) tz (by omega)⟩
  simp [results,go_sem,c0,c1,c2,c3,c4]
theorem implDupNot (x t d:Int) (f:Bool) (r n b:Int) (hk:(congOk x t d && decide (0≤n∧n≤8000))=false) (w:World) :
  Calls Tryz.prog 142 #[congVal x t d f r,.int .i64 n,.int .u32 b] w fun e w'=>e=.returned (.tuple #[congVal x t d f r,.bool false])∧Since w w':=by
 have ho:=fun wx=>implCongOk x t d f r wx
 have hu:=fun wx=>isUnderWay n wx
 generalize congOk x t d=k at ho hk
 generalize decide (0≤n∧n≤8000)=u at hu hk
 unfold congVal at *
 cases k
 ·clear hu hk
  go_enter Tryz.func142,Tryz.ntmps142
  go_wp2_with (go_at_call 89;refine (ho _).mono ?_;rintro _ _ ⟨rfl,rfl⟩)
  refine bodyPost_ret (v:=.tuple #[.agg #[.int .i64 x,.int .i64 t,.int .i64 d,.bool f,.int .u32 r],.bool false]) ?_ rfl ⟨rfl,by repeat (first|exact Since.refl _|apply Since.drew|apply Since.alloc)⟩
  simp [results,go_sem]
 ·obtain rfl:u=false:=by simpa using hk
  clear hk
  go_enter Tryz.func142,Tryz.ntmps142
  go_wp2_with (first|(go_at_call 89;refine (ho _).mono ?_;rintro _ _ ⟨rfl,rfl⟩)|(go_at_call 162;refine (hu _).mono ?_;rintro _ _ ⟨rfl,rfl⟩))
  refine bodyPost_ret (v:=.tuple #[.agg #[.int .i64 x,.int .i64 t,.int .i64 d,.bool f,.int .u32 r],.bool false]) ?_ rfl ⟨rfl,by repeat (first|exact Since.refl _|apply Since.drew|apply Since.alloc)⟩
  simp [results,go_sem]
theorem implDupBy (x t d:Int) (f:Bool) (r n b:Int) (hk:(congOk x t d && decide (0≤n∧n≤8000))=true) (p q:FuncId)
  (hst:∀ wx,Calls Tryz.prog 163 #[congVal x t d f r] wx fun e w'=>e=.returned (.agg #[.func (.func p) #[] #[],.func (.func q) #[] #[]])∧Since wx w') (X T D:Int) (F B:Bool) (R:Int)
  (hrun:∀ args wx,(callFunc q args).run Tryz.prog wx=.ok (.enter q args) wx) (hcl:∀ wx,Calls Tryz.prog q #[congVal x t d f r,.int .i64 n,.int .u32 b] wx fun e w'=>e=.returned (.tuple #[congVal X T D F R,.bool B])∧Since wx w') (w:World) :
  Calls Tryz.prog 142 #[congVal x t d f r,.int .i64 n,.int .u32 b] w fun e w'=>e=.returned (.tuple #[congVal X T D F R,.bool B])∧Since w w':=by
 have hfld:∀ (u v:Value) (wx:World),(Instr.field 199 (.agg #[u,v]) 1).run Tryz.prog wx=.ok v wx:=fun _ _ _=>by kernel_rfl
 have ho:=fun wx=>implCongOk x t d f r wx
 have hu:=fun wx=>isUnderWay n wx
 simp only [Bool.and_eq_true] at hk
 rw [hk.1] at ho
 rw [hk.2] at hu
 clear hk
 unfold congVal at *
 have A0:=(Blk.new w #[.int .i64 x,.int .i64 t,.int .i64 d,.bool f,.int .u32 r] 37)
 go_enter Tryz.func142,Tryz.ntmps142
 go_wp2_with (first|(go_at_call 89;refine (ho _).mono ?_;rintro _ _ ⟨rfl,rfl⟩)|(go_at_call 162;refine (hu _).mono ?_;rintro _ _ ⟨rfl,rfl⟩))
 have g1:Since (w.alloc (.cells #[.int .i64 x,.int .i64 t,.int .i64 d,.bool f,.int .u32 r] 37)) (((w.alloc (.cells #[.int .i64 x,.int .i64 t,.int .i64 d,.bool f,.int .u32 r] 37)).alloc (.cells #[.int .i64 0,.int .i64 0,.int .i64 0,.bool false,.int .u32 0] 37)).alloc (.cells #[.int .i64 x,.int .i64 t,.int .i64 d,.bool f,.int .u32 r] 37)):=by repeat (first|exact Since.refl _|apply Since.drew|apply Since.alloc)
 have A:=A0.since g1
 have Z:=(Blk.new (w.alloc (.cells #[.int .i64 x,.int .i64 t,.int .i64 d,.bool f,.int .u32 r] 37)) #[.int .i64 0,.int .i64 0,.int .i64 0,.bool false,.int .u32 0] 37).since ((Since.refl _).alloc (.cells #[.int .i64 x,.int .i64 t,.int .i64 d,.bool f,.int .u32 r] 37))
 have G:Since w (((w.alloc (.cells #[.int .i64 x,.int .i64 t,.int .i64 d,.bool f,.int .u32 r] 37)).alloc (.cells #[.int .i64 0,.int .i64 0,.int .i64 0,.bool false,.int .u32 0] 37)).alloc (.cells #[.int .i64 x,.int .i64 t,.int .i64 d,.bool f,.int .u32 r] 37)):=by repeat (first|exact Since.refl _|apply Since.drew|apply Since.alloc)
 clear A0 g1
 simp at Z
 generalize (((w.alloc (.cells #[.int .i64 x,.int .i64 t,.int .i64 d,.bool f,.int .u32 r] 37)).alloc (.cells #[.int .i64 0,.int .i64 0,.int .i64 0,.bool false,.int .u32 0] 37)).alloc (.cells #[.int .i64 x,.int .i64 t,.int .i64 d,.bool f,.int .u32 r] 37))=w1 at A Z G ⊢
 refine wp_region_tail (wb:=w1) 9 (fun i y v=>match i with
   | 0=>v=.agg #[.int .i64 x,.int .i64 t,.int .i64 d,.bool f,.int .u32 r]
   | 1=>v=.agg #[.func (.func p) #[] #[],.func (.func q) #[] #[]]
   | 2=>v=.func (.func q) #[] #[]
   | 3=>v=.agg #[.int .i64 x,.int .i64 t,.int .i64 d,.bool f,.int .u32 r]
   | 4=>v=.int .i64 n
   | 5=>v=.int .u32 b
   | 6=>v=.tuple #[.agg #[.int .i64 X,.int .i64 T,.int .i64 D,.bool F,.int .u32 R],.bool B]
   | 7=>v=.agg #[.int .i64 X,.int .i64 T,.int .i64 D,.bool F,.int .u32 R]
   | 8=>v=.bool B
   | _=>True) (fun v=>{tmps:=#[Value.agg #[Value.int IntKind.i64 x,Value.int IntKind.i64 t,Value.int IntKind.i64 d,Value.bool f,Value.int IntKind.u32 r],Value.int IntKind.i64 n,Value.int IntKind.u32 b,Value.pointer (some ⟨w.heap.size,0,none⟩),undef,undef,Value.pointer (some ⟨w.heap.size+1,0,none⟩),Value.bool false,Value.agg #[Value.int IntKind.i64 x,Value.int IntKind.i64 t,Value.int IntKind.i64 d,Value.bool f,Value.int IntKind.u32 r],Value.bool true,Value.bool false,Value.bool false,Value.int IntKind.i64 n,Value.bool true,Value.bool false,Value.bool false,undef,v 0,v 1,v 2,v 3,v 4,v 5,v 6,v 7,v 8],defers:=[]}) (by kernel_rfl) (by kernel_rfl) (by kernel_rfl) (Since.refl _) ?_ (fun vals=>by kernel_rfl) ?_ ?_
 case refine_1=>
  intro j x x' v h1 h2
  match j,h2 with
  | 0,h2|1,h2|2,h2|3,h2|4,h2|5,h2|6,h2|7,h2|8,h2=>exact h2
  | n+9,_=>trivial
 case refine_2=>
  repeat (first|exact eachDoes_nil|refine eachDoes_cons ?_ ?_)
  all_goals intro vals y hy hv
  all_goals simp [Region.binds] at hv
  ·simp [does,doesUpon,go_sem,hv,Since.refl]
  ·simp [does,doesUpon,go_sem,hv,Since.refl]
  ·simp [does,doesUpon,go_sem,hv,hrun]
   refine (hcl y).mono ?_
   rintro _ y' ⟨rfl,h1⟩
   simp [h1]
  ·simp [does,doesUpon,go_sem,Since.refl]
  ·simp [does,doesUpon,go_sem,Since.refl]
  ·have e0:=(A.since hy).cell 0
   have e1:=(A.since hy).cell 1
   have e2:=(A.since hy).cell 2
   have e3:=(A.since hy).cell 3
   have e4:=(A.since hy).cell 4
   simp at e0 e1 e2 e3 e4
   simp [does,doesUpon,go_sem,e0,e1,e2,e3,e4,Since.refl]
  ·simp [does,doesUpon,go_sem,hv,hfld,Since.refl]
  ·simp [does,doesUpon,go_sem,hv]
   refine (hst y).mono ?_
   rintro _ y' ⟨rfl,h1⟩
   simp [h1]
  ·have e0:=(A.since hy).cell 0
   have e1:=(A.since hy).cell 1
   have e2:=(A.since hy).cell 2
   have e3:=(A.since hy).cell 3
   have e4:=(A.since hy).cell 4
   simp at e0 e1 e2 e3 e4
   simp [does,doesUpon,go_sem,e0,e1,e2,e3,e4,Since.refl]
 case refine_3=>
  intro vals y hy hv
  have h7:vals 7=_:=hv 7 (by decide)
  have h8:vals 8=_:=hv 8 (by decide)
  clear hv
  simp only [h7,h8]
  clear h7 h8
  replace Z:=Z.since hy
  have b0:=Z.cell 0
  have b1:=Z.cell 1
  have b2:=Z.cell 2
  have b3:=Z.cell 3
  have b4:=Z.cell 4
  simp at b0 b1 b2 b3 b4
  have f0:=Z.fz 0
  have f1:=Z.fz 1
  have f2:=Z.fz 2
  have f3:=Z.fz 3
  have f4:=Z.fz 4
  obtain ⟨z,hz,tz,Bz⟩:=stored5 Z (.int .i64 X) (.int .i64 T) (.int .i64 D) (.bool F) (.int .u32 R)
  go_wp2_with (fail)
  have c0:=Bz.cell 0
  have c1:=Bz.cell 1
  have c2:=Bz.cell 2
  have c3:=Bz.cell 3
  have c4:=Bz.cell 4
  simp at c0 c1 c2 c3 c4
  clear b0 b1 b2 b3 b4 f0 f1 f2 f3 f4 hz
  refine bodyPost_ret (v:=.tuple #[.agg #[.int .i64 X,.int .i64 T,.int .i64 D,.bool F,.int .u32 R],.bool B]) ?_ rfl ⟨rfl,since_touch (G.trans hy) tz (by omega)⟩
  simp [results,go_sem,c0,c1,c2,c3,c4]
def ackX (k f le:Bool) (x t n:Int):Int:=if k then (if f then (if le then t else min (max (x - n+100) 100) 8000) else if x<t then min (x+min n 100) 8000 else min (x+10000 / x) 8000) else x
def ackD (k f le:Bool) (d:Int):Int:=if k then (if f then (if le then 0 else d) else 0) else d
def ackF (k f le:Bool):Bool:=if k then (if f then (if le then false else f) else f) else f
def ackB (k f le:Bool):Bool:=k && (f && !le)
def ackVal (k f le:Bool) (x t d r n:Int):Value:=.tuple #[congVal (ackX k f le x t n) t (ackD k f le d) (ackF k f le) r,.bool (ackB k f le)]
theorem ok_both {x t d n:Int} (hk:(congOk x t d && decide (0≤n∧n≤8000))=true):(100≤x∧x≤8000)∧(200≤t∧t≤8000)∧(0≤d∧d≤1000000)∧0≤n∧n≤8000:=by
 simp only [Bool.and_eq_true,decide_eq_true_eq] at hk
 obtain ⟨h1,h2,h3⟩:=cong_bounds hk.1
 exact ⟨h1,h2,h3,hk.2⟩
theorem implAck (x t d:Int) (f:Bool) (r n b s:Int) (hr:IsWord r) (hb:IsWord b) (hd:IsDist r b s) (w:World) :
  Calls Tryz.prog 141 #[congVal x t d f r,.int .i64 n,.int .u32 b] w fun e w'=>e=.returned (ackVal (congOk x t d && decide (0≤n∧n≤8000)) f (decide (0≤s)) x t d r n)∧Since w w':=by
 cases hk:(congOk x t d && decide (0≤n∧n≤8000))
 ·exact implAckNot x t d f r n b hk w
 ·obtain ⟨⟨x0,x1⟩,⟨t0,t1⟩,⟨d0,d1⟩,n0,n1⟩:=ok_both hk
  cases f
  ·by_cases hx:x<t
   ·refine (implAckBy x t d false r n b hk _ _ (fun wx=>stepsQuick x t d false r rfl hx wx) _ _ _ _ _ _ (fun _ _=>by kernel_rfl) (fun wx=>ackedQuickly x t d false r n b x0 x1 n0 n1 wx) w).mono ?_
    rintro _ w' ⟨rfl,g⟩
    refine ⟨?_,g⟩
    simp [ackVal,ackX,ackD,ackF,ackB,hx]
   ·refine (implAckBy x t d false r n b hk _ _ (fun wx=>stepsSlow x t d false r rfl hx wx) _ _ _ _ _ _ (fun _ _=>by kernel_rfl) (fun wx=>ackedSlowly x t d false r n b x0 x1 wx) w).mono ?_
    rintro _ w' ⟨rfl,g⟩
    refine ⟨?_,g⟩
    simp [ackVal,ackX,ackD,ackF,ackB,hx]
  ·refine (implAckBy x t d true r n b hk _ _ (fun wx=>stepsMend x t d true r rfl wx) _ _ _ _ _ _ (fun _ _=>by kernel_rfl) (fun wx=>ackedMending x t d true r n b s hr hb hd x0 x1 n0 n1 t0 t1 wx) w).mono ?_
   rintro _ w' ⟨rfl,g⟩
   refine ⟨?_,g⟩
   generalize decide (0≤s)=le
   cases le<;>simp [ackVal,ackX,ackD,ackF,ackB]
def third (k f:Bool) (d:Int):Bool:=k && (!f && decide (d=2))
def dupX (k f:Bool) (x d n:Int):Int:=if k then (if f then min (x+100) 8000 else if d=2 then max (n / 2) 200+300 else x) else x
def dupT (k f:Bool) (t d n:Int):Int:=if third k f d then max (n / 2) 200 else t
def dupD (k f:Bool) (d:Int):Int:=if k then (if f then d else min (d+1) 1000000) else d
def dupF (k f:Bool) (d:Int):Bool:=if third k f d then true else f
def dupR (k f:Bool) (d r b:Int):Int:=if third k f d then b else r
def dupVal (k f:Bool) (x t d r n b:Int):Value:=.tuple #[congVal (dupX k f x d n) (dupT k f t d n) (dupD k f d) (dupF k f d) (dupR k f d r b),.bool (third k f d)]
theorem implDup (x t d:Int) (f:Bool) (r n b:Int) (w:World) :
  Calls Tryz.prog 142 #[congVal x t d f r,.int .i64 n,.int .u32 b] w fun e w'=>e=.returned (dupVal (congOk x t d && decide (0≤n∧n≤8000)) f x t d r n b)∧Since w w':=by
 cases hk:(congOk x t d && decide (0≤n∧n≤8000))
 ·exact implDupNot x t d f r n b hk w
 ·obtain ⟨⟨x0,x1⟩,⟨t0,t1⟩,⟨d0,d1⟩,n0,n1⟩:=ok_both hk
  cases f
  ·have hst:∃ p,∀ wx,Calls Tryz.prog 163 #[congVal x t d false r] wx fun e w'=>e=.returned (.agg #[.func (.func p) #[] #[],.func (.func 171) #[] #[]])∧Since wx w':=by
    by_cases hx:x<t
    ·exact ⟨_,fun wx=>stepsQuick x t d false r rfl hx wx⟩
    ·exact ⟨_,fun wx=>stepsSlow x t d false r rfl hx wx⟩
   obtain ⟨p,hst⟩:=hst
   by_cases h2:d=2
   ·refine (implDupBy x t d false r n b hk _ _ hst _ _ _ _ _ _ (fun _ _=>by kernel_rfl) (fun wx=>dupedThird x t d false r n b n0 n1 h2 wx) w).mono ?_
    rintro _ w' ⟨rfl,g⟩
    refine ⟨?_,g⟩
    subst h2
    simp [dupVal,dupX,dupT,dupD,dupF,dupR,third]
    rfl
   ·refine (implDupBy x t d false r n b hk _ _ hst _ _ _ _ _ _ (fun _ _=>by kernel_rfl) (fun wx=>dupedOther x t d false r n b d0 d1 h2 wx) w).mono ?_
    rintro _ w' ⟨rfl,g⟩
    refine ⟨?_,g⟩
    simp [dupVal,dupX,dupT,dupD,dupF,dupR,third,h2]
  ·refine (implDupBy x t d true r n b hk _ _ (fun wx=>stepsMend x t d true r rfl wx) _ _ _ _ _ _ (fun _ _=>by kernel_rfl) (fun wx=>dupedMending x t d true r n b x0 x1 wx) w).mono ?_
   rintro _ w' ⟨rfl,g⟩
   refine ⟨?_,g⟩
   simp [dupVal,dupX,dupT,dupD,dupF,dupR,third]
end Go.Proofs.YtmigalhmlofbkaaGreatDoor
