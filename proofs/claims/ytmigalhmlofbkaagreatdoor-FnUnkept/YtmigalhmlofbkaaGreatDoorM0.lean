/- A part of the proof. -/
import Derived.Test.YtmigalhmlofbkaaGreatDoorRows
import Derived.WalkKit
import Derived.ProofKit
import Derived.OpenShut
import Derived.WalkSpells
import Derived.Below
import Derived.Laws.BitsAllLaws
import Derived.Laws.ByValue
import Derived.BigQuiet
import Derived.OwnWalk
import Derived.SliceStrings
set_option linter.unusedVariables false
set_option maxRecDepth 10000
namespace Go.Proofs.YtmigalhmlofbkaaGreatDoor
open Go.ChangeShapes Go.WideShapes Go.ChangeAt Go.RowKit
def Newer (w w':World):Prop:=Grown w w'∧Below w.heap.size w w'
theorem Newer.refl (w:World):Newer w w:=⟨Grown.refl _,Below.refl _ _⟩
theorem Newer.trans {a b c:World} (h:Newer a b) (k:Newer b c):Newer a c:=
 ⟨⟨World.keptBut_trans h.1.1 k.1.1,fun x=>(k.1.2.1 x).trans (h.1.2.1 x),Nat.le_trans h.1.2.2 k.1.2.2⟩,h.2.trans (k.2.mono h.1.2.2)⟩
theorem Newer.size {a b:World} (h:Newer a b):a.heap.size≤b.heap.size:=h.1.2.2
theorem Newer.alloc {a b:World} (h:Newer a b) (c:Array Value) (t:TypeId):Newer a (b.alloc (.cells c t)):=
 ⟨Grown.alloc h.1 c t,h.2.alloc h.1.2.2 _⟩
theorem Newer.drew {a b:World} (h:Newer a b):Newer a b.drew:=⟨Grown.drew h.1,h.2.drew⟩
theorem Newer.setCell {a b:World} (h:Newer a b) {p:Addr} (hp:a.heap.size≤p.block) (v:Value):Newer a (b.setCell p v):=
 ⟨Grown.setCell h.1 hp v,h.2.setCell hp v⟩
theorem tmod_small (x m:Int) (h1:-m<x) (h2:x<m):x.tmod m=x:=by
 by_cases h:0≤x
 ·rw [Int.tmod_eq_emod_of_nonneg h,Int.emod_eq_of_lt h h2]
 ·have e:x=-(-x):=by omega
  rw [e,Int.neg_tmod,Int.tmod_eq_emod_of_nonneg (by omega),Int.emod_eq_of_lt (by omega) (by omega)]
def IsWord (x:Int):Prop:=0≤x∧x<4294967296
def IsDist (a b d:Int):Prop:=-2147483648≤d∧d<2147483648∧(b - a - d) % 4294967296=0
theorem distTo (a b d:Int) (ha:IsWord a) (hb:IsWord b) (hd:IsDist a b d) (w:World) :
  Calls Tryz.prog 126 #[.int .u32 a,.int .u32 b] w fun e w'=>e=.returned (.int .i64 d)∧w=w':=by
 obtain ⟨ha,ha'⟩:=ha
 obtain ⟨hb,hb'⟩:=hb
 go_enter Tryz.func126,Tryz.ntmps126
 go_wp2
 go_ret
 refine ⟨?_,rfl⟩
 have e:wrap64 (wrap32 ((b - a) % 4294967296))=d:=by
  obtain ⟨h1,h2,h3⟩:=hd
  unfold wrap64 wrap32
  omega
 simp [e]
theorem specDist (a b d:Int) (ha:IsWord a) (hb:IsWord b) (hd:IsDist a b d) (w:World) :
  Calls Tryz.prog 165 #[.int .u32 a,.int .u32 b] w fun e w'=>e=.returned (.int .i64 d)∧w=w':=by
 obtain ⟨ha,ha'⟩:=ha
 obtain ⟨hb,hb'⟩:=hb
 have ht:=tmod_small (b - a) 4294967296 (by omega) (by omega)
 go_enter Tryz.func165,Tryz.ntmps165
 go_wp2
 all_goals go_ret
 all_goals refine ⟨?_,rfl⟩
 all_goals obtain ⟨h1,h2,h3⟩:=hd
 all_goals simp
 all_goals omega
def IsAhead (a b m:Int):Prop:=0≤m∧m<4294967296∧(b - a - m) % 4294967296=0
theorem isAhead_ex (a b:Int):∃ m,IsAhead a b m:=⟨(b - a) % 4294967296,by unfold IsAhead;omega⟩
def IsInt (x:Int):Prop:=-9223372036854775808≤x∧x≤9223372036854775807
theorem within (p l n m:Int) (hp:IsWord p) (hl:IsWord l) (hm:IsAhead l p m) (w:World) :
  Calls Tryz.prog 157 #[.int .u32 p,.int .u32 l,.int .i64 n] w fun e w'=>e=.returned (.bool (decide (m<n)))∧w=w':=by
 obtain ⟨h1,h2,h3⟩:=hm
 have e1:(p - l) % 4294967296=m:=by omega
 obtain ⟨hp,hp'⟩:=hp
 obtain ⟨hl,hl'⟩:=hl
 go_enter Tryz.func157,Tryz.ntmps157
 go_wp2
 go_ret
 exact ⟨rfl,rfl⟩
theorem implInWindow (s l n m:Int) (hs:IsWord s) (hl:IsWord l) (hm:IsAhead l s m) (w:World) :
  Calls Tryz.prog 135 #[.int .u32 s,.int .u32 l,.int .i64 n] w fun e w'=>e=.returned (.bool (decide (0≤n∧n≤2147483647∧m<n)))∧w=w':=by
 by_cases h1:0≤n
 ·by_cases h2:n≤2147483647
  ·have e1:decide (0≤n∧n≤2147483647∧m<n)=decide (m<n):=by simp [h1,h2]
   rw [e1]
   clear e1
   go_enter Tryz.func135,Tryz.ntmps135
   go_wp2_with (go_at_call 157;refine (within s l n m hs hl hm _).mono ?_;rintro _ _ ⟨rfl,rfl⟩)
   go_ret
   exact ⟨rfl,rfl⟩
  ·have e1:decide (0≤n∧n≤2147483647∧m<n)=false:=by simp [h2]
   rw [e1]
   clear e1
   go_enter Tryz.func135,Tryz.ntmps135
   go_wp2
   go_ret
   exact ⟨rfl,rfl⟩
 ·have e1:decide (0≤n∧n≤2147483647∧m<n)=false:=by simp [h1]
  rw [e1]
  clear e1
  go_enter Tryz.func135,Tryz.ntmps135
  go_wp2
  go_ret
  exact ⟨rfl,rfl⟩
theorem specIn (x a b:Int) (w:World) :
  Calls Tryz.prog 49 #[.int .i64 x,.int .i64 a,.int .i64 b] w fun e w'=>e=.returned (.bool (decide (a≤x∧x≤b)))∧w=w':=by
 by_cases h1:a≤x
 ·have e1:decide (a≤x∧x≤b)=decide (x≤b):=by simp [h1]
  rw [e1]
  clear e1
  go_enter Tryz.func49,Tryz.ntmps49
  go_wp2
  go_ret
  exact ⟨rfl,rfl⟩
 ·have e1:decide (a≤x∧x≤b)=false:=by simp [h1]
  rw [e1]
  clear e1
  go_enter Tryz.func49,Tryz.ntmps49
  go_wp2
  go_ret
  exact ⟨rfl,rfl⟩
def foldOf (n:Int):Int:=if n=0 then 0 else (n - 1) % 65535+1
theorem isHalf (n:Int) (w:World) :
  Calls Tryz.prog 42 #[.int .i64 n] w fun e w'=>e=.returned (.bool (decide (0≤n∧n≤65535)))∧w=w':=by
 by_cases h1:0≤n
 ·have e1:decide (0≤n∧n≤65535)=decide (n≤65535):=by simp [h1]
  rw [e1]
  clear e1
  go_enter Tryz.func42,Tryz.ntmps42
  go_wp2
  go_ret
  exact ⟨rfl,rfl⟩
 ·have e1:decide (0≤n∧n≤65535)=false:=by simp [h1]
  rw [e1]
  clear e1
  go_enter Tryz.func42,Tryz.ntmps42
  go_wp2
  go_ret
  exact ⟨rfl,rfl⟩
def Since (a b:World):Prop:=Below a.heap.size a b
theorem ret_bool {b c:Bool} (h:b=c):Ending.returned (Value.bool b)=Ending.returned (Value.bool c):=by rw [h]
theorem ret_int {b c:Int} (h:b=c):Ending.returned (Value.int .i64 b)=Ending.returned (Value.int .i64 c):=by rw [h]
theorem Since.refl (w:World):Since w w:=Below.refl _ _
theorem Since.trans {a b c:World} (h:Since a b) (k:Since b c):Since a c:=Below.trans h (Below.mono k (Below.size h))
theorem Since.drew {a b:World} (h:Since a b):Since a b.drew:=Below.drew h
theorem Since.alloc {a b:World} (h:Since a b) (o:Obj):Since a (b.alloc o):=Below.alloc h (Below.size h) o
theorem Since.of {a b:World} (h:Newer a b):Since a b:=h.2
theorem Since.le {a b:World} (h:Since a b):a.heap.size≤b.heap.size:=Below.size h
structure Touch (g:Nat) (w w':World):Prop where
 os:w'.os=w.os
 tape:w'.tape=w.tape
 output:w'.output=w.output
 size:w.heap.size≤w'.heap.size
 block:∀ k,k<w.heap.size→k≠g→w'.heap[k]?=w.heap[k]?
theorem Touch.refl (g:Nat) (w:World):Touch g w w:=⟨rfl,rfl,rfl,Nat.le_refl _,fun _ _ _=>rfl⟩
theorem Touch.trans {g:Nat} {a b c:World} (h:Touch g a b) (k:Touch g b c):Touch g a c:=
 ⟨k.os.trans h.os,k.tape.trans h.tape,k.output.trans h.output,Nat.le_trans h.size k.size,fun i hi hg=>(k.block i (Nat.lt_of_lt_of_le hi h.size) hg).trans (h.block i hi hg)⟩
theorem Touch.of_below {g B:Nat} {w w':World} (h:Below B w w') (hB:∀ k,k<w.heap.size→k≠g→k<B):Touch g w w':=
 ⟨h.os,h.tape,h.output,h.size,fun k hk hg=>h.block k (hB k hk hg)⟩
theorem Touch.setCell {g:Nat} {a w:World} (h:Touch g a w) {p:Addr} (hp:p.block=g) (v:Value):Touch g a (w.setCell p v):=by
 have hb:=(Below.refl 0 w).setCell (p:=p) (Nat.zero_le _) v
 exact h.trans ⟨hb.os,hb.tape,hb.output,hb.size,fun k _ hk=>Below.heap_setCell w p v k (by rw [hp];exact hk)⟩
theorem Touch.put {g:Nat} {a w:World} (i:Nat) (v:Value) (h:Touch g a w):Touch g a (w.setCell ⟨g,i,none⟩ v):=h.setCell (p:=⟨g,i,none⟩) rfl v
theorem Touch.drewN {g:Nat} {a w:World} (h:Touch g a w) (n:Nat):Touch g a (w.drewN n):=h.trans ⟨rfl,rfl,rfl,Nat.le_refl _,fun _ _ _=>rfl⟩
theorem Touch.drew {g:Nat} {a w:World} (h:Touch g a w):Touch g a w.drew:=h.trans ⟨rfl,rfl,rfl,Nat.le_refl _,fun _ _ _=>rfl⟩
theorem Touch.alloc {g:Nat} {a w:World} (h:Touch g a w) (o:Obj):Touch g a (w.alloc o):=
 h.trans (Touch.of_below ((Below.refl w.heap.size w).alloc (Nat.le_refl _) o) fun k hk _=>hk)
theorem Touch.below {g B:Nat} {w0 w w':World} (h:Touch g w w') (b:Below B w0 w) (hB:B≤g) (hs:B≤w.heap.size):Below B w0 w':=
 b.trans ⟨h.os,h.tape,h.output,h.size,fun k hk=>h.block k (by omega) (by omega)⟩
theorem Touch.cell {g:Nat} {w w':World} (h:Touch g w w') {p:Addr} (hp:p.block≠g) (hs:p.block<w.heap.size):w'.cell? p=w.cell? p:=World.cell?_of_block (w:=w) (h.block p.block hs hp)
theorem Touch.frozen {g:Nat} {w w':World} (h:Touch g w w') {p:Addr} (hp:p.block≠g) (hs:p.block<w.heap.size):w'.frozen? p=w.frozen? p:=World.frozen?_of_block (w:=w) (h.block p.block hs hp)
theorem Touch.of_since {w w':World} (h:Since w w') (g:Nat):Touch g w w':=Touch.of_below h fun _ hk _=>hk
theorem Touch.le {g:Nat} {w w':World} (h:Touch g w w'):w.heap.size≤w'.heap.size:=h.size
theorem Since.touch {g:Nat} {a b c:World} (h:Since a b) (k:Touch g b c) (hg:a.heap.size≤g):Since a c:=Touch.below k h hg (Below.size h)
def txt (ss:List ByteArray) (i:Nat):ByteArray:=ss.getD i ByteArray.empty
structure Reads (w:World) (a:Option Addr) (n:Nat) (ss:List ByteArray):Prop where
 len:ss.length=n
 most:n≤maxLen
 cell:∀ i,i<n→∃ x,a=some x∧x.block<w.heap.size∧w.cell? (x.add i)=some (.string (txt ss i))
theorem Reads.touch {w w':World} {a:Option Addr} {n g:Nat} {ss:List ByteArray} (h:Reads w a n ss) (k:Touch g w w') (hg:∀ x,a=some x→x.block≠g):Reads w' a n ss:=by
 refine ⟨h.len,h.most,fun i hi=>?_⟩
 obtain ⟨x,rfl,hb,hc⟩:=h.cell i hi
 have hbl:(x.add i).block=x.block:=by unfold Addr.add;split<;>rfl
 exact ⟨x,rfl,Nat.lt_of_lt_of_le hb k.size,(k.cell (p:=x.add i) (by rw [hbl];exact hg x rfl) (by rw [hbl];exact hb)).trans hc⟩
theorem Reads.since {w w':World} {a:Option Addr} {n:Nat} {ss:List ByteArray} (h:Reads w a n ss) (k:Since w w'):Reads w' a n ss:=by
 refine ⟨h.len,h.most,fun i hi=>?_⟩
 obtain ⟨x,rfl,hb,hc⟩:=h.cell i hi
 have hbl:(x.add i).block=x.block:=by unfold Addr.add;split<;>rfl
 exact ⟨x,rfl,Nat.lt_of_lt_of_le hb (Below.size k),(Below.cell k (p:=x.add i) (by rw [hbl];exact hb)).trans hc⟩
def Texts (w:World) (B g n cap:Nat) (ss:List ByteArray):Prop:=
 ss.length=n∧w.ownsRow B 9 1 (.slice (some ⟨g,0,none⟩) n cap) n (ss.map Value.string)
theorem Texts.len {w:World} {B g n cap:Nat} {ss:List ByteArray} (h:Texts w B g n cap ss):ss.length=n:=h.1
theorem Texts.low {w:World} {B g n cap:Nat} {ss:List ByteArray} (h:Texts w B g n cap ss):B≤g:=(h.2.lt g rfl).1
theorem Texts.lt {w:World} {B g n cap:Nat} {ss:List ByteArray} (h:Texts w B g n cap ss):g<w.heap.size:=(h.2.lt g rfl).2
theorem Texts.parts {w:World} {B g n cap:Nat} {ss:List ByteArray} (h:Texts w B g n cap ss):∃ cur,B≤g∧w.heap[g]?=some (.cells cur 9 (0,0))∧n≤cap∧cap≤maxLen∧cur.size=cap∧cur.toList.take n=ss.map Value.string:=by
 rcases h.2.2 with ⟨h1,_⟩|⟨g',cap',cur,h1,h2,h3,h4,h5,h6,h7⟩
 ·cases h1
 ·simp only [Value.slice.injEq,Option.some.injEq,Addr.mk.injEq] at h1
  obtain ⟨⟨rfl,_,_⟩,_,rfl⟩:=h1
  exact ⟨cur,h2,h3,h4,h5,by simpa using h6,by simpa using h7⟩
theorem Texts.mk' {w:World} {B g n cap:Nat} {ss:List ByteArray} {cur:Array Value} (hl:ss.length=n) (h2:B≤g) (h3:w.heap[g]?=some (.cells cur 9 (0,0))) (h4:n≤cap) (h5:cap≤maxLen) (h6:cur.size=cap) (h7:cur.toList.take n=ss.map Value.string):Texts w B g n cap ss:=
 ⟨hl,by simpa using hl,.inr ⟨g,cap,cur,rfl,h2,h3,h4,h5,by simpa using h6,by simpa using h7⟩⟩
theorem Texts.room {w:World} {B g n cap:Nat} {ss:List ByteArray} (h:Texts w B g n cap ss):n≤cap∧cap≤maxLen:=by
 obtain ⟨cur,_,_,h4,h5,_⟩:=h.parts
 exact ⟨h4,h5⟩
theorem Texts.mono {w:World} {B B' g n cap:Nat} {ss:List ByteArray} (h:Texts w B g n cap ss) (hB:B'≤B):Texts w B' g n cap ss:=by
 obtain ⟨cur,h2,h3,h4,h5,h6,h7⟩:=h.parts
 exact Texts.mk' h.1 (Nat.le_trans hB h2) h3 h4 h5 h6 h7
theorem Texts.raise {w:World} {B B' g n cap:Nat} {ss:List ByteArray} (h:Texts w B g n cap ss) (hB:B'≤g):Texts w B' g n cap ss:=by
 obtain ⟨cur,h2,h3,h4,h5,h6,h7⟩:=h.parts
 exact Texts.mk' h.1 hB h3 h4 h5 h6 h7
theorem Texts.block {w w':World} {B g n cap:Nat} {ss:List ByteArray} (h:Texts w B g n cap ss) (hb:w'.heap[g]?=w.heap[g]?):Texts w' B g n cap ss:=by
 obtain ⟨cur,h2,h3,h4,h5,h6,h7⟩:=h.parts
 exact Texts.mk' h.1 h2 (hb.trans h3) h4 h5 h6 h7
theorem Texts.since {w w':World} {B g n cap:Nat} {ss:List ByteArray} (h:Texts w B g n cap ss) (k:Since w w'):Texts w' B g n cap ss:=h.block (Below.block k g h.lt)
theorem Texts.touch {w w':World} {B g n cap g':Nat} {ss:List ByteArray} (h:Texts w B g n cap ss) (k:Touch g' w w') (hne:g≠g'):Texts w' B g n cap ss:=h.block (k.block g h.lt hne)
theorem Texts.cell {w:World} {B g n cap:Nat} {ss:List ByteArray} (h:Texts w B g n cap ss) (i:Nat) (hi:i<n):w.cell? ⟨g,i,none⟩=some (.string (txt ss i)):=by
 have hl:i<ss.length:=by rw [h.1];exact hi
 have hc:=h.2.cells (g:=g) rfl i (.string (txt ss i)) (by simp [txt,List.getD,List.getElem?_eq_getElem hl])
 rwa [show (⟨g,0,none⟩:Addr).add i=⟨g,i,none⟩ by simp [Addr.add];omega] at hc
theorem Texts.free {w:World} {B g n cap:Nat} {ss:List ByteArray} (h:Texts w B g n cap ss) (i:Nat):w.frozen? ⟨g,i,none⟩=false:=by
 obtain ⟨cur,h2,h3,h4,h5,h6,h7⟩:=h.parts
 exact frozen_of_row w g i cur _ h3
theorem Texts.set {w:World} {B g n cap:Nat} {ss:List ByteArray} (h:Texts w B g n cap ss) (i:Nat) (hi:i<n) (s:ByteArray):Texts (w.setCell ⟨g,i,none⟩ (.string s)) B g n cap (ss.set i s):=by
 obtain ⟨cur,h2,h3,h4,h5,h6,h7⟩:=h.parts
 have hs:=heap_setCell_same w g i cur _ (.string s) h3
 refine Texts.mk' (by rw [List.length_set];exact h.1) h2 hs h4 h5 (by simpa using h6) ?_
 rw [List.map_set,← h7,Array.toList_setIfInBounds,List.take_set]
theorem Texts.other {w:World} {B g n cap:Nat} {ss:List ByteArray} (h:Texts w B g n cap ss) {b:Nat} (hne:g≠b) (i:Nat) (v:Value):Texts (w.setCell ⟨b,i,none⟩ v) B g n cap ss:=h.block (Below.heap_setCell w ⟨b,i,none⟩ v g hne)
theorem Reads.other {w:World} {a:Option Addr} {n:Nat} {ss:List ByteArray} (h:Reads w a n ss) {b:Nat} (hne:∀ x,a=some x→x.block≠b) (i:Nat) (v:Value):Reads (w.setCell ⟨b,i,none⟩ v) a n ss:=h.touch ((Touch.refl b w).put i v) hne
theorem Texts.reads {w:World} {B g n cap:Nat} {ss:List ByteArray} (h:Texts w B g n cap ss):Reads w (some ⟨g,0,none⟩) n ss:=by
 refine ⟨h.1,Nat.le_trans h.room.1 h.room.2,fun i hi=>⟨_,rfl,h.lt,?_⟩⟩
 rw [show (⟨g,0,none⟩:Addr).add i=⟨g,i,none⟩ by simp [Addr.add];omega]
 exact h.cell i hi
structure Rec1 (b:Nat) (x:World) (c0:Value):Prop where
 lt:b<x.heap.size
 fz:∀ i,x.frozen? ⟨b,i,none⟩=false
 c0:x.cell? ⟨b,0,none⟩=some c0
theorem Rec1.since {b:Nat} {x x':World} {c0:Value} (k:Rec1 b x c0) (h:Since x x'):Rec1 b x' c0:=
 ⟨Nat.lt_of_lt_of_le k.lt h.le,fun i=>(Below.frozen h (p:=⟨b,i,none⟩) k.lt).trans (k.fz i),(Below.cell h (p:=⟨b,0,none⟩) k.lt).trans k.c0⟩
theorem Rec1.touch {b g:Nat} {x x':World} {c0:Value} (k:Rec1 b x c0) (h:Touch g x x') (hne:b≠g):Rec1 b x' c0:=
 ⟨Nat.lt_of_lt_of_le k.lt h.size,fun i=>(h.frozen (p:=⟨b,i,none⟩) hne k.lt).trans (k.fz i),(h.cell (p:=⟨b,0,none⟩) hne k.lt).trans k.c0⟩
theorem Rec1.new (x:World) (c0:Value) (t:TypeId):Rec1 x.heap.size (x.alloc (.cells #[c0] t)) c0:=⟨by simp,fun i=>by simp,by simp⟩
theorem Rec1.put {b:Nat} {x:World} {c0:Value} (k:Rec1 b x c0) (v:Value):Rec1 b (x.setCell ⟨b,0,none⟩ v) v:=
 ⟨by have:=k.lt;simpa [World.setCell] using this,fun j=>(World.frozen?_setCell _ _ _ _).trans (k.fz j),World.cell?_setCell_same' _ _ _ (by rw [k.c0];rfl)⟩
theorem Rec1.other {a b:Nat} {x:World} {c0:Value} (k:Rec1 b x c0) (hne:b≠a) (i:Nat) (v:Value):Rec1 b (x.setCell ⟨a,i,none⟩ v) c0:=
 ⟨by have:=k.lt;simpa [World.setCell] using this,fun j=>(World.frozen?_setCell _ _ _ _).trans (k.fz j),(World.cell?_setCell_other x _ _ v (fun h=>hne (congrArg Addr.block h).symm)).trans k.c0⟩
structure Blk (b:Nat) (x:World) (cs:Array Value):Prop where
 lt:b<x.heap.size
 fz:∀ i,x.frozen? ⟨b,i,none⟩=false
 cell:∀ i:Nat,x.cell? ⟨b,i,none⟩=cs[i]?
theorem Blk.since {b:Nat} {x x':World} {cs:Array Value} (k:Blk b x cs) (h:Since x x'):Blk b x' cs:=
 ⟨Nat.lt_of_lt_of_le k.lt h.le,fun i=>(Below.frozen h (p:=⟨b,i,none⟩) k.lt).trans (k.fz i),fun i=>(Below.cell h (p:=⟨b,i,none⟩) k.lt).trans (k.cell i)⟩
theorem Blk.touch {b g:Nat} {x x':World} {cs:Array Value} (k:Blk b x cs) (h:Touch g x x') (hne:b≠g):Blk b x' cs:=
 ⟨Nat.lt_of_lt_of_le k.lt h.size,fun i=>(h.frozen (p:=⟨b,i,none⟩) hne k.lt).trans (k.fz i),fun i=>(h.cell (p:=⟨b,i,none⟩) hne k.lt).trans (k.cell i)⟩
theorem Blk.new (x:World) (cs:Array Value) (t:TypeId):Blk x.heap.size (x.alloc (.cells cs t)) cs:=⟨by simp,fun i=>by simp,fun i=>World.cell?_alloc_mark x _ _ _ i⟩
theorem Blk.other {a b:Nat} {x:World} {cs:Array Value} (k:Blk b x cs) (hne:b≠a) (i:Nat) (v:Value):Blk b (x.setCell ⟨a,i,none⟩ v) cs:=
 k.touch ((Touch.refl a x).put i v) hne
theorem since_put1 {w x:World} {b:Nat} (h:Since w x) (hb:w.heap.size≤b) (i:Nat) (v:Value):Since w (x.setCell ⟨b,i,none⟩ v):=Below.setCell h (p:=⟨b,i,none⟩) hb v
theorem since_drews {w x:World} (h:Since w x) (n:Nat):Since w (x.drewN n):=⟨h.os,h.tape,h.output,h.size,h.block⟩
end Go.Proofs.YtmigalhmlofbkaaGreatDoor
