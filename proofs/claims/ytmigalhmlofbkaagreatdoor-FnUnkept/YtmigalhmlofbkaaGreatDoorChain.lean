/- A part of the proof. -/
import Derived.Test.YtmigalhmlofbkaaGreatDoorMQ
import Derived.Test.YtmigalhmlofbkaaGreatDoorMA
set_option linter.unusedVariables false
set_option maxRecDepth 10000
namespace Go.Proofs.YtmigalhmlofbkaaGreatDoor
open Go.ChangeShapes Go.WideShapes Go.ChangeAt Go.RowKit Go.Deep
structure Chain (g:Nat) (w:World) (a b c:Nat) (L:List Nat) (C0 C1 C2 C3:Array Value) (f:Nat→Bool) (x:World):Prop where
 touch:Touch g w x
 pre:f a=true→∀ j,L.contains j=true→f j=true
 ab:f b=true→f a=true
 bc:f c=true→f b=true
 blk:Blk g x (if f c then C3 else if f b then C2 else if f a then C1 else C0)
section
variable {g:Nat} {w x z:World} {a b c:Nat} {L:List Nat} {C0 C1 C2 C3:Array Value} {f:Nat→Bool}
theorem Chain.start (B:Blk g w C0) (hf:∀ j,f j=false):Chain g w a b c L C0 C1 C2 C3 f w.drew:=
 ⟨(Touch.refl g w).drew,(fun h=>by rw [hf] at h;cases h),(fun h=>by rw [hf] at h;cases h),(fun h=>by rw [hf] at h;cases h),by rw [hf,hf,hf];exact B.since ((Since.refl _).drew)⟩
theorem Chain.skip (h:Chain g w a b c L C0 C1 C2 C3 f x) (i:Nat) (ha:a≠i) (hb:b≠i) (hc:c≠i):Chain g w a b c L C0 C1 C2 C3 (andDone f i) x:=by
 obtain ⟨t,p,q,r,B⟩:=h
 have ea:andDone f i a=f a:=if_neg ha
 have eb:andDone f i b=f b:=if_neg hb
 have ec:andDone f i c=f c:=if_neg hc
 refine ⟨t,?_,by rw [ea,eb];exact q,by rw [eb,ec];exact r,by rw [ea,eb,ec];exact B⟩
 rw [ea]
 intro h j hj
 unfold andDone
 split
 ·rfl
 ·exact p h j hj
theorem Chain.since (h:Chain g w a b c L C0 C1 C2 C3 f x) (s:Since x z):Chain g w a b c L C0 C1 C2 C3 f z:=
 ⟨h.touch.trans (touch_of s),h.pre,h.ab,h.bc,h.blk.since s⟩
theorem Chain.no_a (h:Chain g w a b c L C0 C1 C2 C3 f x) {i:Nat} (hf:f i=false) (hi:L.contains i=true):f a=false:=by
 cases e:f a with
 | false=>rfl
 | true=>rw [h.pre e i hi] at hf;cases hf
theorem Chain.old (h:Chain g w a b c L C0 C1 C2 C3 f x) (ha:f a=false):Blk g x C0:=by
 have hb:f b=false:=by
  cases e:f b with
  | false=>rfl
  | true=>rw [h.ab e] at ha;cases ha
 have hc:f c=false:=by
  cases e:f c with
  | false=>rfl
  | true=>rw [h.bc e] at hb;cases hb
 have B:=h.blk
 rw [ha,hb,hc] at B
 exact B
theorem Chain.mid (h:Chain g w a b c L C0 C1 C2 C3 f x) (ha:f a=true) (hb:f b=false):Blk g x C1:=by
 have hc:f c=false:=by
  cases e:f c with
  | false=>rfl
  | true=>rw [h.bc e] at hb;cases hb
 have B:=h.blk
 rw [ha,hb,hc] at B
 exact B
theorem Chain.late (h:Chain g w a b c L C0 C1 C2 C3 f x) (hb:f b=true) (hc:f c=false):Blk g x C2:=by
 have B:=h.blk
 rw [hb,hc] at B
 exact B
theorem Chain.put1 (h:Chain g w a b c L C0 C1 C2 C3 f x) (hne:b≠a) (hne2:c≠a) (hf:f a=false) (hl:∀ j,L.contains j=true→f j=true) (t:Touch g x z) (B:Blk g z C1):Chain g w a b c L C0 C1 C2 C3 (andDone f a) z:=by
 have hb:f b=false:=by
  cases e:f b with
  | false=>rfl
  | true=>rw [h.ab e] at hf;cases hf
 have hc:f c=false:=by
  cases e:f c with
  | false=>rfl
  | true=>rw [h.bc e] at hb;cases hb
 have ea:andDone f a a=true:=if_pos rfl
 have eb:andDone f a b=false:=(if_neg hne).trans hb
 have ec:andDone f a c=false:=(if_neg hne2).trans hc
 refine ⟨h.touch.trans t,fun _ j hj=>?_,fun e=>ea,(fun e=>by rw [ec] at e;cases e),by rw [ea,eb,ec];exact B⟩
 unfold andDone
 split
 ·rfl
 ·exact hl j hj
theorem Chain.put2 (h:Chain g w a b c L C0 C1 C2 C3 f x) (hne:a≠b) (hne2:c≠b) (ha:f a=true) (hf:f b=false) (t:Touch g x z) (B:Blk g z C2):Chain g w a b c L C0 C1 C2 C3 (andDone f b) z:=by
 have hc:f c=false:=by
  cases e:f c with
  | false=>rfl
  | true=>rw [h.bc e] at hf;cases hf
 have ea:andDone f b a=true:=(if_neg hne).trans ha
 have eb:andDone f b b=true:=if_pos rfl
 have ec:andDone f b c=false:=(if_neg hne2).trans hc
 refine ⟨h.touch.trans t,fun _ j hj=>?_,fun _=>ea,(fun e=>by rw [ec] at e;cases e),by rw [eb,ec];exact B⟩
 unfold andDone
 split
 ·rfl
 ·exact h.pre ha j hj
theorem Chain.put3 (h:Chain g w a b c L C0 C1 C2 C3 f x) (hne:a≠c) (hne2:b≠c) (hb:f b=true) (t:Touch g x z) (B:Blk g z C3):Chain g w a b c L C0 C1 C2 C3 (andDone f c) z:=by
 have ea:andDone f c a=true:=(if_neg hne).trans (h.ab hb)
 have eb:andDone f c b=true:=(if_neg hne2).trans hb
 have ec:andDone f c c=true:=if_pos rfl
 refine ⟨h.touch.trans t,fun _ j hj=>?_,fun _=>ea,fun _=>eb,by rw [ec];exact B⟩
 unfold andDone
 split
 ·rfl
 ·exact h.pre (h.ab hb) j hj
theorem Chain.end3 (h:Chain g w a b c L C0 C1 C2 C3 f x) (hc:f c=true):Blk g x C3:=by
 have B:=h.blk
 rw [hc] at B
 exact B
theorem Chain.end1 (h:Chain g w a b c L C0 C1 C1 C1 f x) (ha:f a=true):Blk g x C1:=by
 have B:=h.blk
 rw [ha] at B
 simpa using B
theorem Chain.end2 (h:Chain g w a b c L C0 C1 C2 C2 f x) (hb:f b=true):Blk g x C2:=by
 have B:=h.blk
 rw [hb] at B
 simpa using B
end
end Go.Proofs.YtmigalhmlofbkaaGreatDoor
