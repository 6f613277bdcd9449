/- A part of the proof. -/
import Derived.Test.YtmigalhmlofbkaaGreatDoorM9
set_option linter.unusedVariables false
set_option maxRecDepth 10000
namespace Go.Proofs.YtmigalhmlofbkaaGreatDoor
open Go.ChangeShapes Go.WideShapes Go.ChangeAt Go.RowKit Go.Deep
theorem specInRoom (q:Int) (d:ByteArray) (r:Int) (a:Option Addr) (n cap:Nat) (ps:List (Int×ByteArray)) (g:Good q d r n ps) (w:World) (R:Rd shP w a n ps) :
  Calls Tryz.prog 131 #[inVal q d (.slice a n cap) r] w fun e w'=>e=.returned (.int .i64 (inRoomN q d r ps))∧Since w w':=by
 have ho:=fun wx Rx=>specInOk q d r a n cap ps g wx Rx
 have hd:=g.hd
 have G:Since w (w.alloc (.cells #[.int .u32 q,.string d,.slice a n cap,.int .i64 r] 33)):=(Since.refl _).alloc _
 have A:=Blk.new w #[.int .u32 q,.string d,.slice a n cap,.int .i64 r] 33
 have ho1:=ho _ (R.since G)
 clear ho
 unfold inRoomN
 cases hk:inOk q d r ps
 ·rw [if_neg (by simp)]
  rw [hk] at ho1
  unfold inVal at *
  clear g R
  go_enter Tryz.func131,Tryz.ntmps131
  go_wp2_with (go_at_call 155;refine ho1.mono ?_;rintro _ w1 ⟨rfl,g1⟩)
  go_ret
  exact ⟨rfl,G.trans g1⟩
 ·rw [if_pos rfl]
  rw [hk] at ho1
  obtain ⟨⟨h1,h2⟩,h3,_⟩:=inOk_room hk
  have hsub:IntKind.i64.wrap (r - (d.size:Int))=r - (d.size:Int):=by rw [IntWalk.i64_left];exact IntWalk.wrap64_in _ ⟨by omega,by omega⟩
  unfold inVal at *
  clear g R
  go_enter Tryz.func131,Tryz.ntmps131
  go_wp2_with (go_at_call 155;refine ho1.mono ?_;rintro _ w1 ⟨rfl,g1⟩;have c1:=(A.since g1).cell 1;have c3:=(A.since g1).cell 3;simp at c1 c3)
  go_ret
  exact ⟨rfl,G.trans g1⟩
end Go.Proofs.YtmigalhmlofbkaaGreatDoor
