/-
  What an end sends at once, as spec does it.
-/
import Derived.Test.YtfenlfijfjcdbaaGreatM18
import Derived.Test.YtfenlfijfjcdbaaGreatM7
import Derived.Test.YtfenlfijfjcdbaaGreatM19
import Derived.Test.YtfenlfijfjcdbaaGreatSend11V
import Derived.Test.YtfenlfijfjcdbaaGreatM12
import Derived.Deep.DeepCutAuto
import Derived.LoopTactic
namespace Go.Proofs.YtfenlfijfjcdbaaGreat
open Go.ChangeShapes Go.WideShapes Go.ChangeAt Go.RowKit
set_option linter.unusedVariables false
set_option maxRecDepth 10000

def KeepsS (c : Cn) (ps : List (Int × ByteArray)) (now : Int) (d : Cn) (n : Nat) (xs : List Sg) : Prop :=
  Sent c d ∧ leftC d ≤ leftC c ∧ (n : Int) + max (leftC d) 0 ≤ max (leftC c) 0 ∧ ∃ f : Nat, leftC d ≤ f ∧ piecesC ps now f d xs = piecesC ps now (leftC c).toNat c []

theorem keeps_one {c : Cn} {ps : List (Int × ByteArray)} {d : Cn} {n : Nat} {xs : List Sg} {now : Int} (h : KeepsS c ps now d n xs) (hz : sizeN d ≤ leftC d) (hg : goesB d = true) (hl : leftC (oneC d now) = leftC d - sizeN d ∧ 1 ≤ sizeN d ∧ sizeN d ≤ leftC d) (now' : Int) : KeepsS c ps now (oneC d now) (n + 1) (xs ++ [pieceSg d ps]) := by
  obtain ⟨s, h1, h2, f, h3, e⟩ := h
  refine ⟨s.one now, by omega, by omega, ?_⟩
  cases f with
  | zero => omega
  | succ f =>
    refine ⟨f, by omega, ?_⟩
    rw [← e]
    conv => rhs; unfold piecesC
    rw [hg]
    rfl

theorem meas {c d : Cn} {now : Int} (s : Sent c d) (s1 : Sent c (oneC d now)) (hl : leftC (oneC d now) = leftC d - sizeN d ∧ 1 ≤ sizeN d ∧ sizeN d ≤ leftC d) : (distI (oneC d now).nxt (behindC c)).toNat < (distI d.nxt (behindC c)).toNat := by
  have e1 : behindC c = behindC (oneC d now) := by unfold behindC; rw [s1.oF, s1.oD]
  have e2 : behindC c = behindC d := by unfold behindC; rw [s.oF, s.oD]
  have l1 : distI (oneC d now).nxt (behindC c) = leftC (oneC d now) := by unfold leftC; rw [e1]
  have l2 : distI d.nxt (behindC c) = leftC d := by unfold leftC; rw [e2]
  rw [l1, l2]
  omega

theorem pieces_stop {c : Cn} {ps : List (Int × ByteArray)} {now : Int} {d : Cn} {n : Nat} {xs : List Sg} (h : KeepsS c ps now d n xs) (hg : goesB d = false) : Hid ((d, xs) = piecesC ps now (leftC c).toNat c []) := by
  obtain ⟨-, -, -, f, -, e⟩ := h
  show (d, xs) = _
  rw [← e]
  cases f with
  | zero => rfl
  | succ f =>
    unfold piecesC
    rw [hg]
    rfl

set_option maxRecDepth 20000 in
set_option maxHeartbeats 16000000 in
theorem specSendL (c : Cn) (ps : List (Int × ByteArray)) (now : Int) (ms : MayS c ps) (h0 : 0 ≤ now) (h1 : now ≤ 1000000000) (w : World) (R : Rd shP w c.pa c.pn ps) :
    Calls Tryz.prog 29 #[.agg (cnCells c), .int .i64 now] w fun e w' => ∃ g n cap, e = .returned (.tuple #[.agg (cnCells (sendV c ps now).1), .slice (some ⟨g, 0, none⟩) n cap]) ∧ Held shG w' w.heap.size g n cap (sendV c ps now).2 ∧ Since w w' := by
  obtain ⟨SV, hSV⟩ : ∃ q, Hid (q = sendV c ps now) := ⟨_, rfl⟩
  rw [← hSV.out]
  go_enter Tryz.func29, Tryz.ntmps29
  go_upto_region 1 with (fail)
  rw [cn_zero]
  have G := ((Since.refl w).alloc (.cells (cnCells c) 42)).alloc (.cells (cnCells cnZero) 42)
  have A := (Blk.new w (cnCells c) 42).since ((Since.refl _).alloc (.cells (cnCells cnZero) 42))
  have Z := Blk.new (w.alloc (.cells (cnCells c) 42)) (cnCells cnZero) 42
  rw [World.size_alloc] at Z
  generalize (w.alloc (.cells (cnCells c) 42)).alloc (.cells (cnCells cnZero) 42) = x0 at A Z G ⊢
  have hZ := Z.lt
  refine vR ?_
  refine vW (x0.alloc (.cells #[] 61)) (.slice (some ⟨x0.heap.size, 0, none⟩) 0 0) ?_
  have qL2 := heldG0 x0
  have qg3 := (Since.refl x0).alloc (.cells #[] 61)
  replace A := A.since qg3
  replace Z := Z.since qg3
  replace G := G.trans qg3
  generalize x0.alloc (.cells #[] 61) = qw1 at A Z G qL2 qg3 ⊢
  have qg3_s := qg3.size
  have qL2_g := G.size
  have qL2_l := qL2.lt
  replace qL2 := qL2.raise (show w.heap.size ≤ x0.heap.size by omega)
  refine vV (.slice (some ⟨x0.heap.size, 0, none⟩) 0 0) ?_
  refine vE #[.agg (cnCells c),.int .i64 now,.pointer (some ⟨w.heap.size, 0, none⟩),U,.pointer (some ⟨w.heap.size + 1, 0, none⟩),.slice none 0 0,.slice (some ⟨x0.heap.size, 0, none⟩) 0 0,U,U,U,U,U,.slice (some ⟨x0.heap.size, 0, none⟩) 0 0,U,U,U,U,U,U,U,U,U,U,U,U,U,U,U,U,U,U,U,U,U,U,U,U,U,U,U,U,U,U,U,U,U,U,U,U,U,U,U,U,U,U,U,U,U,U,U,U,U,U,U,U,U,U,U,U,U,U,U,U,U,U,U,U,U,U,U,U,U,U,U,U,U,U,U,U,U,U,U,U,U,U,U,U,U,U,U,U,U,U,U,U,U,U,U,U,U,U,U,U,U,U,U,U,U,U,U,U,U,U,U,U,U,U,U,U,U,U,U,U,U,U,U,U,U,U,U,U,U,U,U,U,U,U,U,U,U,U,U,U,U,U,U,U,U,U,U,U,U,U,U,U,U,U,U,U,U,U,U,U,U,U,U,U,U,U,U,U,U,U,U,U,U,U,U,U,U,U,U,U,U,U,U,U,U,U] ?_
  refine wpList_nil ?_
  simp only [Exit.then]
  rename_i hK
  refine hK _ _ ?_
  clear hK
  apply wp_seq_k
  intro _ _
  go_cut [6] (fun ov wx => ∃ (d : Cn) (g n cap : Nat) (xs : List Sg), ov = .slice (some ⟨g, 0, none⟩) n cap ∧ Blk w.heap.size wx (cnCells d) ∧ Blk (w.heap.size + 1) wx (cnCells cnZero) ∧ Held shG wx w.heap.size g n cap xs ∧ Since w wx ∧ w.heap.size + 1 < g ∧ (n : Int) ≤ 100000 ∧ Sent c d ∧ Hid ((d, xs) = piecesC ps now (leftC c).toNat c []))
  case first =>
    go_wp2_with (fail)
    go_loopw [6] (fun ov wr => ∃ (d : Cn) (g n cap : Nat) (xs : List Sg), ov = .slice (some ⟨g, 0, none⟩) n cap ∧ Blk w.heap.size wr (cnCells d) ∧ Blk (w.heap.size + 1) wr (cnCells cnZero) ∧ Held shG wr w.heap.size g n cap xs ∧ Since w wr ∧ w.heap.size + 1 < g ∧ Hid (KeepsS c ps now d n xs)) (fun _ wr => (distI (intOf ((wr.cell? ⟨w.heap.size, 3, none⟩).getD (.int .u32 0))) (behindC c)).toNat)
    case atStart => exact ⟨c, _, _, _, [], rfl, A, Z, qL2, G, by omega, ⟨Sent.refl ms.w_nxt ms.w_mx, Int.le_refl _, by omega, (leftC c).toNat, by omega, rfl⟩⟩
    case round =>
      clear A Z qL2 G
      obtain ⟨d, g, n, cap, xs, rfl, A, Z, L, G, hg2, hKp⟩ := hrel
      have hZ2 := Z.lt
      have hL2 := L.lt
      have hG2 := G.size
      have sd := hKp.out.1
      have hnb : (n : Int) ≤ 100000 := by have := hKp.out.2.2.1; have := ms.left; omega
      have hd_una : IsWord d.una := by rw [sd.una]; exact ms.w_una
      have hd_oF : IsWord d.oF := by rw [sd.oF]; exact ms.w_oF
      have hd_od : d.oD.size ≤ 1048576 := by rw [sd.oD]; exact ms.hod
      have hd_wn : 0 ≤ d.wnd ∧ d.wnd ≤ 65535 := by rw [sd.wnd]; exact ms.wnd
      have hd_cX : 0 ≤ d.cX ∧ d.cX ≤ 65535 := by rw [sd.cX]; exact ms.cX
      have hd_gd : Good d.iN d.iD d.iR d.pn ps := by rw [sd.iN, sd.iD, sd.iR, sd.pn]; exact ms.gd
      have hd_R : Rd shP w d.pa d.pn ps := by rw [sd.pa, sd.pn]; exact R
      obtain ⟨sb, hsb⟩ : ∃ q, Hid (q = sendsB d.st) := ⟨_, rfl⟩
      have hS := fun wx => specSends d.st wx
      rw [← hsb.out] at hS
      obtain ⟨lf, hlf⟩ : ∃ q, Hid (q = leftC d) := ⟨_, rfl⟩
      have hLf := fun wx => specLeft d sd.w_nxt hd_od wx
      rw [← hlf.out] at hLf
      obtain ⟨mn, hmn⟩ : ∃ q, Hid (q = mayN d) := ⟨_, rfl⟩
      obtain ⟨ds, hds⟩ : ∃ q, Hid (q = distI d.una d.nxt) := ⟨_, rfl⟩
      have hDs := fun wx => specDist d.una d.nxt _ hd_una sd.w_nxt (distI_is _ _) wx
      rw [← hds.out] at hDs
      obtain ⟨r1, hr1⟩ : ∃ q, Hid (q = mn - ds) := ⟨_, rfl⟩
      obtain ⟨cp, hcp⟩ : ∃ q, Hid (q = capN d) := ⟨_, rfl⟩
      obtain ⟨sz, hsz⟩ : ∃ q, Hid (q = sizeN d) := ⟨_, rfl⟩
      obtain ⟨sp, hsp⟩ : ∃ q, Hid (q = stopsB d) := ⟨_, rfl⟩
      have hw1 : Hid (IntKind.i64.wrap (mn - ds) = r1) := by
        show _ = _
        have a1 := distI_is d.una d.nxt
        rw [← hds.out] at a1
        unfold IsDist at a1
        have a2 : 0 ≤ mn ∧ mn ≤ 65535 := by rw [hmn.out]; unfold mayN; split <;> omega
        rw [hr1.out, IntWalk.i64_left]
        exact IntWalk.wrap64_in _ ⟨by omega, by omega⟩
      obtain ⟨b1, hb1⟩ : ∃ q, Hid (q = decide (d.cX < d.wnd)) := ⟨_, rfl⟩
      obtain ⟨b2, hb2⟩ : ∃ q, Hid (q = decide (100 < r1)) := ⟨_, rfl⟩
      obtain ⟨b3, hb3⟩ : ∃ q, Hid (q = decide (lf < cp)) := ⟨_, rfl⟩
      have hA0 : Hid (wr.cell? ⟨w.heap.size, 3, none⟩ = some (.int .u32 d.nxt)) := A.cell 3
      clear hd_wn hd_cX
      go_upto_region 2 with (fail)
      cases sb
      case false =>
        refine vR ?_
        refine vV (.pointer (some ⟨w.heap.size, 0, none⟩)) ?_
        refine vD (.int .i64 d.st) (A.cell 0) ?_
        refine vC (hS _) ?_
        rintro _ _ ⟨rfl, rfl⟩
        refine ⟨_, rfl, ?_⟩
        refine vE #[.agg (cnCells c),.int .i64 now,.pointer (some ⟨w.heap.size, 0, none⟩),U,.pointer (some ⟨w.heap.size + 1, 0, none⟩),.slice none 0 0,.slice (some ⟨g, 0, none⟩) n cap,u7,u8,u9,u10,U,.slice (some ⟨x0.heap.size, 0, none⟩) 0 0,.pointer (some ⟨w.heap.size, 0, none⟩),.int .i64 d.st,.bool false,u16,u17,u18,u19,u20,u21,u22,u23,u24,u25,u26,u27,u28,u29,u30,u31,u32,u33,u34,u35,u36,u37,u38,u39,u40,u41,u42,u43,u44,u45,u46,u47,u48,u49,u50,u51,u52,u53,u54,u55,u56,u57,u58,u59,u60,u61,u62,u63,u64,u65,u66,u67,u68,u69,u70,u71,u72,u73,u74,u75,u76,u77,u78,u79,u80,u81,u82,u83,u84,u85,u86,u87,u88,u89,u90,u91,u92,u93,u94,u95,u96,u97,u98,U,U,U,U,U,U,U,U,U,U,U,U,U,U,U,U,U,U,U,U,U,U,U,U,U,U,U,U,U,U,U,U,U,U,U,U,U,U,U,U,U,U,U,U,U,U,U,U,U,U,U,U,U,U,U,U,U,U,U,U,U,U,U,U,U,U,U,U,U,U,U,U,U,U,U,U,U,U,U,U,U,U,U,U,U,U,U,U,U,U,U,U,U,U,U,U,U,U,U,U] ?_
        go_wp2_with (fail)
        go_meet
        case rel =>
          exact ⟨d, g, n, cap, xs, rfl, A, Z, L, G, hg2, hnb, sd, pieces_stop hKp.out (by unfold goesB; rw [← hsb.out]; rfl)⟩
      case true =>
        refine vR ?_
        refine vV (.pointer (some ⟨w.heap.size, 0, none⟩)) ?_
        refine vD (.int .i64 d.st) (A.cell 0) ?_
        refine vC (hS _) ?_
        rintro _ _ ⟨rfl, rfl⟩
        refine ⟨_, rfl, ?_⟩
        refine vE #[.agg (cnCells c),.int .i64 now,.pointer (some ⟨w.heap.size, 0, none⟩),U,.pointer (some ⟨w.heap.size + 1, 0, none⟩),.slice none 0 0,.slice (some ⟨g, 0, none⟩) n cap,u7,u8,u9,u10,U,.slice (some ⟨x0.heap.size, 0, none⟩) 0 0,.pointer (some ⟨w.heap.size, 0, none⟩),.int .i64 d.st,.bool true,u16,u17,u18,u19,u20,u21,u22,u23,u24,u25,u26,u27,u28,u29,u30,u31,u32,u33,u34,u35,u36,u37,u38,u39,u40,u41,u42,u43,u44,u45,u46,u47,u48,u49,u50,u51,u52,u53,u54,u55,u56,u57,u58,u59,u60,u61,u62,u63,u64,u65,u66,u67,u68,u69,u70,u71,u72,u73,u74,u75,u76,u77,u78,u79,u80,u81,u82,u83,u84,u85,u86,u87,u88,u89,u90,u91,u92,u93,u94,u95,u96,u97,u98,U,U,U,U,U,U,U,U,U,U,U,U,U,U,U,U,U,U,U,U,U,U,U,U,U,U,U,U,U,U,U,U,U,U,U,U,U,U,U,U,U,U,U,U,U,U,U,U,U,U,U,U,U,U,U,U,U,U,U,U,U,U,U,U,U,U,U,U,U,U,U,U,U,U,U,U,U,U,U,U,U,U,U,U,U,U,U,U,U,U,U,U,U,U,U,U,U,U,U,U] ?_
        go_upto_region 3 with (fail)
        refine vR ?_
        refine vB cn_big A (cn_size _) ?_
        refine vK (hLf _) ?_
        intro pw1 pg2
        replace A := A.since pg2
        replace Z := Z.since pg2
        replace L := L.since pg2
        replace G := G.trans pg2
        have pg2_s := pg2.size
        refine vV (.int .i64 lf) ?_
        refine vE #[.agg (cnCells c),.int .i64 now,.pointer (some ⟨w.heap.size, 0, none⟩),U,.pointer (some ⟨w.heap.size + 1, 0, none⟩),.slice none 0 0,.slice (some ⟨g, 0, none⟩) n cap,.int .i64 lf,u8,u9,u10,U,.slice (some ⟨x0.heap.size, 0, none⟩) 0 0,.pointer (some ⟨w.heap.size, 0, none⟩),.int .i64 d.st,.bool true,.agg (cnCells d),.int .i64 lf,u18,u19,u20,u21,u22,u23,u24,u25,u26,u27,u28,u29,u30,u31,u32,u33,u34,u35,u36,u37,u38,u39,u40,u41,u42,u43,u44,u45,u46,u47,u48,u49,u50,u51,u52,u53,u54,u55,u56,u57,u58,u59,u60,u61,u62,u63,u64,u65,u66,u67,u68,u69,u70,u71,u72,u73,u74,u75,u76,u77,u78,u79,u80,u81,u82,u83,u84,u85,u86,u87,u88,u89,u90,u91,u92,u93,u94,u95,u96,u97,u98,U,U,U,U,U,U,U,U,U,U,U,U,U,U,U,U,U,U,U,U,U,U,U,U,U,U,U,U,U,U,U,U,U,U,U,U,U,U,U,U,U,U,U,U,U,U,U,U,U,U,U,U,U,U,U,U,U,U,U,U,U,U,U,U,U,U,U,U,U,U,U,U,U,U,U,U,U,U,U,U,U,U,U,U,U,U,U,U,U,U,U,U,U,U,U,U,U,U,U,U] ?_
        go_upto_region 4 with (fail)
        refine vR ?_
        refine vV (.pointer (some ⟨w.heap.size, 5, none⟩)) ?_
        refine vD (.int .i64 d.wnd) (A.cell 5) ?_
        refine vV (.int .i64 d.wnd) ?_
        refine vE #[.agg (cnCells c),.int .i64 now,.pointer (some ⟨w.heap.size, 0, none⟩),U,.pointer (some ⟨w.heap.size + 1, 0, none⟩),.slice none 0 0,.slice (some ⟨g, 0, none⟩) n cap,.int .i64 lf,.int .i64 d.wnd,u9,u10,U,.slice (some ⟨x0.heap.size, 0, none⟩) 0 0,.pointer (some ⟨w.heap.size, 0, none⟩),.int .i64 d.st,.bool true,.agg (cnCells d),.int .i64 lf,.pointer (some ⟨w.heap.size, 5, none⟩),.int .i64 d.wnd,u20,u21,u22,u23,u24,u25,u26,u27,u28,u29,u30,u31,u32,u33,u34,u35,u36,u37,u38,u39,u40,u41,u42,u43,u44,u45,u46,u47,u48,u49,u50,u51,u52,u53,u54,u55,u56,u57,u58,u59,u60,u61,u62,u63,u64,u65,u66,u67,u68,u69,u70,u71,u72,u73,u74,u75,u76,u77,u78,u79,u80,u81,u82,u83,u84,u85,u86,u87,u88,u89,u90,u91,u92,u93,u94,u95,u96,u97,u98,U,U,U,U,U,U,U,U,U,U,U,U,U,U,U,U,U,U,U,U,U,U,U,U,U,U,U,U,U,U,U,U,U,U,U,U,U,U,U,U,U,U,U,U,U,U,U,U,U,U,U,U,U,U,U,U,U,U,U,U,U,U,U,U,U,U,U,U,U,U,U,U,U,U,U,U,U,U,U,U,U,U,U,U,U,U,U,U,U,U,U,U,U,U,U,U,U,U,U,U] ?_
        go_upto_region 5 with (fail)
        refine vR ?_
        refine vV (.pointer (some ⟨w.heap.size, 23, none⟩)) ?_
        refine vV (.pointer (some ⟨w.heap.size, 23, none⟩)) ?_
        refine vD (.int .i64 d.cX) (A.cell 23) ?_
        refine vV (.int .i64 d.wnd) ?_
        refine vV (.bool b1) ?_ (hrun := by rw [hb1.out]; kernel_rfl)
        refine vE #[.agg (cnCells c),.int .i64 now,.pointer (some ⟨w.heap.size, 0, none⟩),U,.pointer (some ⟨w.heap.size + 1, 0, none⟩),.slice none 0 0,.slice (some ⟨g, 0, none⟩) n cap,.int .i64 lf,.int .i64 d.wnd,u9,u10,U,.slice (some ⟨x0.heap.size, 0, none⟩) 0 0,.pointer (some ⟨w.heap.size, 0, none⟩),.int .i64 d.st,.bool true,.agg (cnCells d),.int .i64 lf,.pointer (some ⟨w.heap.size, 5, none⟩),.int .i64 d.wnd,.pointer (some ⟨w.heap.size, 23, none⟩),.pointer (some ⟨w.heap.size, 23, none⟩),.int .i64 d.cX,.int .i64 d.wnd,.bool b1,u25,u26,u27,u28,u29,u30,u31,u32,u33,u34,u35,u36,u37,u38,u39,u40,u41,u42,u43,u44,u45,u46,u47,u48,u49,u50,u51,u52,u53,u54,u55,u56,u57,u58,u59,u60,u61,u62,u63,u64,u65,u66,u67,u68,u69,u70,u71,u72,u73,u74,u75,u76,u77,u78,u79,u80,u81,u82,u83,u84,u85,u86,u87,u88,u89,u90,u91,u92,u93,u94,u95,u96,u97,u98,U,U,U,U,U,U,U,U,U,U,U,U,U,U,U,U,U,U,U,U,U,U,U,U,U,U,U,U,U,U,U,U,U,U,U,U,U,U,U,U,U,U,U,U,U,U,U,U,U,U,U,U,U,U,U,U,U,U,U,U,U,U,U,U,U,U,U,U,U,U,U,U,U,U,U,U,U,U,U,U,U,U,U,U,U,U,U,U,U,U,U,U,U,U,U,U,U,U,U,U] ?_
        have f_cX : pw1.cell? ⟨w.heap.size, 23, none⟩ = some (.int .i64 d.cX) := A.cell 23
        have em1 : Hid (b1 = true → mn = d.cX) := fun h => by rw [hmn.out]; unfold mayN; rw [if_pos (by simpa [h] using hb1.out.symm)]
        have em0 : Hid (b1 = false → mn = d.wnd) := fun h => by rw [hmn.out]; unfold mayN; rw [if_neg (by simpa [h] using hb1.out.symm)]
        go_upto_if 24 with (fail)
        go_cut [8] from 13 to 98 (fun v wx => v = .int .i64 mn ∧ pw1 = wx)
        case first =>
          cases b1
          · have e := em0.out rfl
            replace e : Hid _ := e
            go_wp2_with (fail)
            go_meet
            case rel => exact ⟨by rw [e.out], rfl⟩
          · have e := em1.out rfl
            replace e : Hid _ := e
            go_wp2_with (fail)
            go_meet
            case rel => exact ⟨by rw [e.out], rfl⟩
        case rest =>
        obtain ⟨rfl, rfl⟩ := hcut
        clear f_cX
        go_upto_region 7 with (fail)
        refine vR ?_
        refine vV (.int .i64 mn) ?_
        refine vV (.pointer (some ⟨w.heap.size, 2, none⟩)) ?_
        refine vD (.int .u32 d.una) (A.cell 2) ?_
        refine vV (.pointer (some ⟨w.heap.size, 3, none⟩)) ?_
        refine vD (.int .u32 d.nxt) (A.cell 3) ?_
        refine vC (hDs _) ?_
        rintro _ _ ⟨rfl, rfl⟩
        refine ⟨_, rfl, ?_⟩
        refine vV (.int .i64 r1) ?_ (hrun := by rw [← hw1.out]; kernel_rfl)
        refine vV (.int .i64 r1) ?_
        refine vE #[.agg (cnCells c),.int .i64 now,.pointer (some ⟨w.heap.size, 0, none⟩),U,.pointer (some ⟨w.heap.size + 1, 0, none⟩),.slice none 0 0,.slice (some ⟨g, 0, none⟩) n cap,.int .i64 lf,.int .i64 mn,.int .i64 r1,u10,U,.slice (some ⟨x0.heap.size, 0, none⟩) 0 0,u13,u14,u15,u16,u17,u18,u19,u20,u21,u22,u23,u24,u25,u26,u27,.int .i64 mn,.pointer (some ⟨w.heap.size, 2, none⟩),.int .u32 d.una,.pointer (some ⟨w.heap.size, 3, none⟩),.int .u32 d.nxt,.int .i64 ds,.int .i64 r1,u35,u36,u37,u38,u39,u40,u41,u42,u43,u44,u45,u46,u47,u48,u49,u50,u51,u52,u53,u54,u55,u56,u57,u58,u59,u60,u61,u62,u63,u64,u65,u66,u67,u68,u69,u70,u71,u72,u73,u74,u75,u76,u77,u78,u79,u80,u81,u82,u83,u84,u85,u86,u87,u88,u89,u90,u91,u92,u93,u94,u95,u96,u97,u98,U,U,U,U,U,U,U,U,U,U,U,U,U,U,U,U,U,U,U,U,U,U,U,U,U,U,U,U,U,U,U,U,U,U,U,U,U,U,U,U,U,U,U,U,U,U,U,U,U,U,U,U,U,U,U,U,U,U,U,U,U,U,U,U,U,U,U,U,U,U,U,U,U,U,U,U,U,U,U,U,U,U,U,U,U,U,U,U,U,U,U,U,U,U,U,U,U,U,U,U] ?_
        go_upto_region 8 with (fail)
        refine vR ?_
        refine vV (.int .i64 r1) ?_
        refine vV (.bool b2) ?_ (hrun := by rw [hb2.out]; kernel_rfl)
        refine vE #[.agg (cnCells c),.int .i64 now,.pointer (some ⟨w.heap.size, 0, none⟩),U,.pointer (some ⟨w.heap.size + 1, 0, none⟩),.slice none 0 0,.slice (some ⟨g, 0, none⟩) n cap,.int .i64 lf,.int .i64 mn,.int .i64 r1,u10,U,.slice (some ⟨x0.heap.size, 0, none⟩) 0 0,u13,u14,u15,u16,u17,u18,u19,u20,u21,u22,u23,u24,u25,u26,u27,.int .i64 mn,.pointer (some ⟨w.heap.size, 2, none⟩),.int .u32 d.una,.pointer (some ⟨w.heap.size, 3, none⟩),.int .u32 d.nxt,.int .i64 ds,.int .i64 r1,.int .i64 r1,.bool b2,u37,u38,u39,u40,u41,u42,u43,u44,u45,u46,u47,u48,u49,u50,u51,u52,u53,u54,u55,u56,u57,u58,u59,u60,u61,u62,u63,u64,u65,u66,u67,u68,u69,u70,u71,u72,u73,u74,u75,u76,u77,u78,u79,u80,u81,u82,u83,u84,u85,u86,u87,u88,u89,u90,u91,u92,u93,u94,u95,u96,u97,u98,U,U,U,U,U,U,U,U,U,U,U,U,U,U,U,U,U,U,U,U,U,U,U,U,U,U,U,U,U,U,U,U,U,U,U,U,U,U,U,U,U,U,U,U,U,U,U,U,U,U,U,U,U,U,U,U,U,U,U,U,U,U,U,U,U,U,U,U,U,U,U,U,U,U,U,U,U,U,U,U,U,U,U,U,U,U,U,U,U,U,U,U,U,U,U,U,U,U,U,U] ?_
        have ec1 : Hid (b2 = true → cp = 100) := fun h => by rw [hcp.out]; unfold capN; rw [← hmn.out, ← hds.out, ← hr1.out, if_pos (by simpa [h] using hb2.out.symm)]
        have ec0 : Hid (b2 = false → cp = r1) := fun h => by rw [hcp.out]; unfold capN; rw [← hmn.out, ← hds.out, ← hr1.out, if_neg (by simpa [h] using hb2.out.symm)]
        go_upto_if 36 with (fail)
        go_cut [9] from 13 to 98 (fun v wx => v = .int .i64 cp ∧ pw1 = wx)
        case first =>
          cases b2
          · have e := ec0.out rfl
            replace e : Hid _ := e
            go_wp2_with (fail)
            go_meet
            case rel => exact ⟨by rw [e.out], rfl⟩
          · have e := ec1.out rfl
            replace e : Hid _ := e
            go_wp2_with (fail)
            go_meet
            case rel => exact ⟨by rw [e.out], rfl⟩
        case rest =>
        obtain ⟨rfl, rfl⟩ := hcut
        go_upto_region 10 with (fail)
        refine vR ?_
        refine vV (.int .i64 cp) ?_
        refine vV (.int .i64 lf) ?_
        refine vV (.bool b3) ?_ (hrun := by rw [hb3.out]; kernel_rfl)
        refine vE #[.agg (cnCells c),.int .i64 now,.pointer (some ⟨w.heap.size, 0, none⟩),U,.pointer (some ⟨w.heap.size + 1, 0, none⟩),.slice none 0 0,.slice (some ⟨g, 0, none⟩) n cap,.int .i64 lf,.int .i64 mn,.int .i64 cp,u10,U,.slice (some ⟨x0.heap.size, 0, none⟩) 0 0,u13,u14,u15,u16,u17,u18,u19,u20,u21,u22,u23,u24,u25,u26,u27,u28,u29,u30,u31,u32,u33,u34,u35,u36,.int .i64 cp,.int .i64 lf,.bool b3,u40,u41,u42,u43,u44,u45,u46,u47,u48,u49,u50,u51,u52,u53,u54,u55,u56,u57,u58,u59,u60,u61,u62,u63,u64,u65,u66,u67,u68,u69,u70,u71,u72,u73,u74,u75,u76,u77,u78,u79,u80,u81,u82,u83,u84,u85,u86,u87,u88,u89,u90,u91,u92,u93,u94,u95,u96,u97,u98,U,U,U,U,U,U,U,U,U,U,U,U,U,U,U,U,U,U,U,U,U,U,U,U,U,U,U,U,U,U,U,U,U,U,U,U,U,U,U,U,U,U,U,U,U,U,U,U,U,U,U,U,U,U,U,U,U,U,U,U,U,U,U,U,U,U,U,U,U,U,U,U,U,U,U,U,U,U,U,U,U,U,U,U,U,U,U,U,U,U,U,U,U,U,U,U,U,U,U,U] ?_
        have es1 : Hid (b3 = true → sz = lf) := fun h => by rw [hsz.out]; unfold sizeN; rw [← hlf.out, ← hcp.out, if_pos (by simpa [h] using hb3.out.symm)]
        have es0 : Hid (b3 = false → sz = cp) := fun h => by rw [hsz.out]; unfold sizeN; rw [← hlf.out, ← hcp.out, if_neg (by simpa [h] using hb3.out.symm)]
        go_upto_if 39 with (fail)
        go_cut [9] from 13 to 98 (fun v wx => v = .int .i64 sz ∧ pw1 = wx)
        case first =>
          cases b3
          · have e := es0.out rfl
            replace e : Hid _ := e
            go_wp2_with (fail)
            go_meet
            case rel => exact ⟨by rw [e.out], rfl⟩
          · have e := es1.out rfl
            replace e : Hid _ := e
            go_wp2_with (fail)
            go_meet
            case rel => exact ⟨by rw [e.out], rfl⟩
        case rest =>
        obtain ⟨rfl, rfl⟩ := hcut
        go_upto_region 12 with (fail)
        have f_una : pw1.cell? ⟨w.heap.size, 2, none⟩ = some (.int .u32 d.una) := A.cell 2
        have f_nxt : pw1.cell? ⟨w.heap.size, 3, none⟩ = some (.int .u32 d.nxt) := A.cell 3
        have hpp := hsp.out
        unfold stopsB at hpp
        rw [← hsz.out, ← hlf.out] at hpp
        replace hpp : Hid _ := hpp
        go_cut [58] from 13 to 98 (fun v wx => v = .bool sp ∧ pw1 = wx)
        case first =>
          by_cases k1 : sz < 1
          case pos =>
            have e : Hid (sp = true) := hpp.out.trans (by simp [k1])
            go_wp2_with (fail)
            go_meet
            case rel => exact ⟨by rw [e.out], rfl⟩
          case neg =>
            by_cases k2 : sz < 100
            case neg =>
              have e : Hid (sp = false) := hpp.out.trans (by simp [k1, k2])
              go_wp2_with (fail)
              go_meet
              case rel => exact ⟨by rw [e.out], rfl⟩
            case pos =>
              by_cases k3 : sz < lf
              case neg =>
                have e : Hid (sp = false) := hpp.out.trans (by simp [k1, k3])
                go_wp2_with (fail)
                go_meet
                case rel => exact ⟨by rw [e.out], rfl⟩
              case pos =>
                by_cases k4 : d.una = d.nxt
                case pos =>
                  have e : Hid (sp = false) := hpp.out.trans (by simp [k1, k4])
                  have k4' : (d.una != d.nxt) = false := by simp [k4]
                  clear k4
                  go_wp2_with (fail)
                  go_meet
                  case rel => exact ⟨by rw [e.out], rfl⟩
                case neg =>
                  have e : Hid (sp = true) := hpp.out.trans (by simp [k2, k3, k4])
                  have k4' : (d.una != d.nxt) = true := by simpa using k4
                  clear k4
                  go_wp2_with (fail)
                  go_meet
                  case rel => exact ⟨by rw [e.out], rfl⟩
        case rest =>
        obtain ⟨rfl, rfl⟩ := hcut
        clear f_una f_nxt hpp
        cases sp
        case true =>
          go_wp2_with (fail)
          go_meet
          case rel =>
            exact ⟨d, g, n, cap, xs, rfl, A, Z, L, G, hg2, hnb, sd, pieces_stop hKp.out (by unfold goesB; rw [← hsb.out, ← hsp.out]; rfl)⟩
        case false =>
          obtain ⟨rm, hrm⟩ : ∃ q, Hid (q = inRoomN d.iN d.iD d.iR ps) := ⟨_, rfl⟩
          have hAk := fun wx Rx => specAckSg d ps hd_gd wx Rx
          unfold ackSg at hAk
          rw [← hrm.out] at hAk
          obtain ⟨tk, htk⟩ : ∃ q, Hid (q = takeT d.oF d.oD d.oR d.nxt sz (distI d.oF d.nxt)) := ⟨_, rfl⟩
          have hol := one_left (now := now) sd.w_nxt hsp.out.symm
          rw [← hsz.out, ← hlf.out] at hol
          have hle := hKp.out.2.1
          rw [← hlf.out] at hle
          have hml := ms.left
          have hTk := fun wx => specOutTake d.oF d.oD d.oR d.nxt sz (distI d.oF d.nxt) hd_oF sd.w_nxt (distI_is _ _) hd_od ⟨by omega, by omega⟩ wx
          rw [← htk.out] at hTk
          unfold outVal at hTk
          have hol1 : 1 ≤ sz ∧ sz ≤ lf := hol.2
          replace hol : Hid _ := hol
          replace hle : Hid _ := hle
          clear hml
          go_upto_region 13 with (fail)
          refine vR ?_
          refine vB cn_big A (cn_size _) ?_
          refine vK (hAk _ (hd_R.since G)) ?_
          intro pw3 pg4
          replace A := A.since pg4
          replace Z := Z.since pg4
          replace L := L.since pg4
          replace G := G.trans pg4
          have pg4_s := pg4.size
          refine vW (pw3.alloc (.cells (sgCells sgZero) 61)) (.pointer (some ⟨pw3.heap.size, 0, none⟩)) ?_
          have pB6 := Blk.new pw3 (sgCells sgZero) 61
          have pg7 := (Since.refl pw3).alloc (.cells (sgCells sgZero) 61)
          replace A := A.since pg7
          replace Z := Z.since pg7
          replace L := L.since pg7
          replace G := G.trans pg7
          generalize pw3.alloc (.cells (sgCells sgZero) 61) = pw5 at A Z L G pB6 pg7 ⊢
          have pB6_l := pB6.lt
          have pg7_s := pg7.size
          refine sB (sgCells ⟨0, 0, d.mx, d.iN, 16, rm, 0, ByteArray.empty⟩) seg_big pB6 rfl rfl (seg_one _ _ _ _ _ _ _ _) ?_
          intro pw8 pt9 pB10
          clear pB6
          replace A := A.touch pt9 (by omega)
          replace Z := Z.touch pt9 (by omega)
          replace L := L.touch pt9 (by omega)
          replace G := since_touch G pt9 (by omega)
          have pt9_s := pt9.size
          refine vE #[.agg (cnCells c),.int .i64 now,.pointer (some ⟨w.heap.size, 0, none⟩),U,.pointer (some ⟨w.heap.size + 1, 0, none⟩),.slice none 0 0,.slice (some ⟨g, 0, none⟩) n cap,.int .i64 lf,.int .i64 mn,.int .i64 sz,.pointer (some ⟨pw3.heap.size, 0, none⟩),U,.slice (some ⟨x0.heap.size, 0, none⟩) 0 0,u13,u14,u15,u16,u17,u18,u19,u20,u21,u22,u23,u24,u25,u26,u27,u28,u29,u30,u31,u32,u33,u34,u35,u36,u37,u38,u39,u40,u41,u42,u43,u44,u45,u46,u47,u48,u49,u50,u51,u52,u53,u54,u55,u56,u57,.bool false,.agg (cnCells d),.agg (sgCells ⟨0, 0, d.mx, d.iN, 16, rm, 0, ByteArray.empty⟩),u61,u62,u63,u64,u65,u66,u67,u68,u69,u70,u71,u72,u73,u74,u75,u76,u77,u78,u79,u80,u81,u82,u83,u84,u85,u86,u87,u88,u89,u90,u91,u92,u93,u94,u95,u96,u97,u98,U,U,U,U,U,U,U,U,U,U,U,U,U,U,U,U,U,U,U,U,U,U,U,U,U,U,U,U,U,U,U,U,U,U,U,U,U,U,U,U,U,U,U,U,U,U,U,U,U,U,U,U,U,U,U,U,U,U,U,U,U,U,U,U,U,U,U,U,U,U,U,U,U,U,U,U,U,U,U,U,U,U,U,U,U,U,U,U,U,U,U,U,U,U,U,U,U,U,U,U] ?_
          go_upto_region 14 with (fail)
          refine vR ?_
          refine vV (.pointer (some ⟨w.heap.size, 3, none⟩)) ?_
          refine vD (.int .u32 d.nxt) (A.cell 3) ?_
          refine vV (.pointer (some ⟨pw3.heap.size, 2, none⟩)) ?_
          refine sC (sgCells ⟨0, 0, d.nxt, d.iN, 16, rm, 0, ByteArray.empty⟩) pB10 2 (.int .u32 d.nxt) rfl ?_
          intro pw11 pt12 pB13
          clear pB10
          replace A := A.touch pt12 (by omega)
          replace Z := Z.touch pt12 (by omega)
          replace L := L.touch pt12 (by omega)
          replace G := since_touch G pt12 (by omega)
          have pt12_s := pt12.size
          refine vE #[.agg (cnCells c),.int .i64 now,.pointer (some ⟨w.heap.size, 0, none⟩),U,.pointer (some ⟨w.heap.size + 1, 0, none⟩),.slice none 0 0,.slice (some ⟨g, 0, none⟩) n cap,.int .i64 lf,.int .i64 mn,.int .i64 sz,.pointer (some ⟨pw3.heap.size, 0, none⟩),U,.slice (some ⟨x0.heap.size, 0, none⟩) 0 0,u13,u14,u15,u16,u17,u18,u19,u20,u21,u22,u23,u24,u25,u26,u27,u28,u29,u30,u31,u32,u33,u34,u35,u36,u37,u38,u39,u40,u41,u42,u43,u44,u45,u46,u47,u48,u49,u50,u51,u52,u53,u54,u55,u56,u57,.bool false,.agg (cnCells d),.agg (sgCells ⟨0, 0, d.mx, d.iN, 16, rm, 0, ByteArray.empty⟩),.pointer (some ⟨w.heap.size, 3, none⟩),.int .u32 d.nxt,.pointer (some ⟨pw3.heap.size, 2, none⟩),u64,u65,u66,u67,u68,u69,u70,u71,u72,u73,u74,u75,u76,u77,u78,u79,u80,u81,u82,u83,u84,u85,u86,u87,u88,u89,u90,u91,u92,u93,u94,u95,u96,u97,u98,U,U,U,U,U,U,U,U,U,U,U,U,U,U,U,U,U,U,U,U,U,U,U,U,U,U,U,U,U,U,U,U,U,U,U,U,U,U,U,U,U,U,U,U,U,U,U,U,U,U,U,U,U,U,U,U,U,U,U,U,U,U,U,U,U,U,U,U,U,U,U,U,U,U,U,U,U,U,U,U,U,U,U,U,U,U,U,U,U,U,U,U,U,U,U,U,U,U,U,U] ?_
          go_upto_region 15 with (fail)
          refine vR ?_
          refine vV (.pointer (some ⟨w.heap.size, 8, none⟩)) ?_
          refine vP pOut_big A 8 [.int .u32 d.oF, .string d.oD, .int .i64 d.oR] ?_
          refine vV (.pointer (some ⟨w.heap.size, 3, none⟩)) ?_
          refine vD (.int .u32 d.nxt) (A.cell 3) ?_
          refine vV (.int .i64 sz) ?_
          refine vK (hTk _) ?_
          intro pw14 pg15
          replace A := A.since pg15
          replace Z := Z.since pg15
          replace pB13 := pB13.since pg15
          replace L := L.since pg15
          replace G := G.trans pg15
          have pg15_s := pg15.size
          refine vV (.pointer (some ⟨pw3.heap.size, 7, none⟩)) ?_
          refine sC (sgCells ⟨0, 0, d.nxt, d.iN, 16, rm, 0, tk⟩) pB13 7 (.string tk) rfl ?_
          intro pw16 pt17 pB18
          clear pB13
          replace A := A.touch pt17 (by omega)
          replace Z := Z.touch pt17 (by omega)
          replace L := L.touch pt17 (by omega)
          replace G := since_touch G pt17 (by omega)
          have pt17_s := pt17.size
          refine vE #[.agg (cnCells c),.int .i64 now,.pointer (some ⟨w.heap.size, 0, none⟩),U,.pointer (some ⟨w.heap.size + 1, 0, none⟩),.slice none 0 0,.slice (some ⟨g, 0, none⟩) n cap,.int .i64 lf,.int .i64 mn,.int .i64 sz,.pointer (some ⟨pw3.heap.size, 0, none⟩),U,.slice (some ⟨x0.heap.size, 0, none⟩) 0 0,u13,u14,u15,u16,u17,u18,u19,u20,u21,u22,u23,u24,u25,u26,u27,u28,u29,u30,u31,u32,u33,u34,u35,u36,u37,u38,u39,u40,u41,u42,u43,u44,u45,u46,u47,u48,u49,u50,u51,u52,u53,u54,u55,u56,u57,.bool false,.agg (cnCells d),.agg (sgCells ⟨0, 0, d.mx, d.iN, 16, rm, 0, ByteArray.empty⟩),.pointer (some ⟨w.heap.size, 3, none⟩),.int .u32 d.nxt,.pointer (some ⟨pw3.heap.size, 2, none⟩),.pointer (some ⟨w.heap.size, 8, none⟩),.agg #[.int .u32 d.oF, .string d.oD, .int .i64 d.oR],.pointer (some ⟨w.heap.size, 3, none⟩),.int .u32 d.nxt,.int .i64 sz,.string tk,.pointer (some ⟨pw3.heap.size, 7, none⟩),u71,u72,u73,u74,u75,u76,u77,u78,u79,u80,u81,u82,u83,u84,u85,u86,u87,u88,u89,u90,u91,u92,u93,u94,u95,u96,u97,u98,U,U,U,U,U,U,U,U,U,U,U,U,U,U,U,U,U,U,U,U,U,U,U,U,U,U,U,U,U,U,U,U,U,U,U,U,U,U,U,U,U,U,U,U,U,U,U,U,U,U,U,U,U,U,U,U,U,U,U,U,U,U,U,U,U,U,U,U,U,U,U,U,U,U,U,U,U,U,U,U,U,U,U,U,U,U,U,U,U,U,U,U,U,U,U,U,U,U,U,U] ?_
          go_upto_region 16 with (fail)
          obtain ⟨b4, hb4⟩ : ∃ q, Hid (q = (sz == lf)) := ⟨_, rfl⟩
          refine vR ?_
          refine vV (.int .i64 sz) ?_
          refine vV (.int .i64 lf) ?_
          refine vV (.bool b4) ?_ (hrun := by rw [hb4.out]; kernel_rfl)
          refine vE #[.agg (cnCells c),.int .i64 now,.pointer (some ⟨w.heap.size, 0, none⟩),U,.pointer (some ⟨w.heap.size + 1, 0, none⟩),.slice none 0 0,.slice (some ⟨g, 0, none⟩) n cap,.int .i64 lf,.int .i64 mn,.int .i64 sz,.pointer (some ⟨pw3.heap.size, 0, none⟩),U,.slice (some ⟨x0.heap.size, 0, none⟩) 0 0,u13,u14,u15,u16,u17,u18,u19,u20,u21,u22,u23,u24,u25,u26,u27,u28,u29,u30,u31,u32,u33,u34,u35,u36,u37,u38,u39,u40,u41,u42,u43,u44,u45,u46,u47,u48,u49,u50,u51,u52,u53,u54,u55,u56,u57,.bool false,.agg (cnCells d),.agg (sgCells ⟨0, 0, d.mx, d.iN, 16, rm, 0, ByteArray.empty⟩),.pointer (some ⟨w.heap.size, 3, none⟩),.int .u32 d.nxt,.pointer (some ⟨pw3.heap.size, 2, none⟩),.pointer (some ⟨w.heap.size, 8, none⟩),.agg #[.int .u32 d.oF, .string d.oD, .int .i64 d.oR],.pointer (some ⟨w.heap.size, 3, none⟩),.int .u32 d.nxt,.int .i64 sz,.string tk,.pointer (some ⟨pw3.heap.size, 7, none⟩),.int .i64 sz,.int .i64 lf,.bool b4,u74,u75,u76,u77,u78,u79,u80,u81,u82,u83,u84,u85,u86,u87,u88,u89,u90,u91,u92,u93,u94,u95,u96,u97,u98,U,U,U,U,U,U,U,U,U,U,U,U,U,U,U,U,U,U,U,U,U,U,U,U,U,U,U,U,U,U,U,U,U,U,U,U,U,U,U,U,U,U,U,U,U,U,U,U,U,U,U,U,U,U,U,U,U,U,U,U,U,U,U,U,U,U,U,U,U,U,U,U,U,U,U,U,U,U,U,U,U,U,U,U,U,U,U,U,U,U,U,U,U,U,U,U,U,U,U,U] ?_
          have hNb := fun x : Cn => fun (hx : IsWord x.mx) wx => specWent x sz now hx h0 h1 wx
          cases b4
          case false =>
            have hfl : Hid ((if sz = lf then 24 else 16 : Int) = 16) := by
              have := hb4.out
              simp at this
              exact if_neg this
            go_upto_region 18 with (fail)
            refine vR ?_
            refine vV (.slice (some ⟨g, 0, none⟩) n cap) ?_
            refine vB seg_big pB18 rfl ?_
            refine vW (pw16.alloc (.cells (sgCells ⟨0, 0, d.nxt, d.iN, 16, rm, 0, tk⟩) 61)) (.slice (some ⟨pw16.heap.size, 0, none⟩) 1 1) ?_
            have pL20 := heldG1 pw16 (⟨0, 0, d.nxt, d.iN, 16, rm, 0, tk⟩)
            have pg21 := (Since.refl pw16).alloc (.cells (sgCells ⟨0, 0, d.nxt, d.iN, 16, rm, 0, tk⟩) 61)
            replace A := A.since pg21
            replace Z := Z.since pg21
            replace pB18 := pB18.since pg21
            replace L := L.since pg21
            replace G := G.trans pg21
            generalize pw16.alloc (.cells (sgCells ⟨0, 0, d.nxt, d.iN, 16, rm, 0, tk⟩) 61) = pw19 at A Z pB18 L G pL20 pg21 ⊢
            have pg21_s := pg21.size
            have pL20_l := pL20.lt
            refine vA L pL20.reads (by unfold maxLen; omega) (by omega) (by have := G.size; omega) ?_
            intro pb26 pc27 pw22 pL23 pr24 ho
            have pt25 := touch_grownG pr24
            have pL23_o := L.low'
            have pL23_p := L.lt
            replace ho := own_or ho
            replace A := A.touch pt25 (by omega)
            replace Z := Z.touch pt25 (by omega)
            replace pB18 := pB18.touch pt25 (by omega)
            replace G := since_touch G pt25 (by omega)
            have pt25_s := pt25.size
            have pL23_o2 := pL23.low'
            have pL23_l := pL23.lt
            clear L pL20
            refine vV (.slice (some ⟨pb26, 0, none⟩) (n + 1) pc27) ?_
            refine vE #[.agg (cnCells c),.int .i64 now,.pointer (some ⟨w.heap.size, 0, none⟩),U,.pointer (some ⟨w.heap.size + 1, 0, none⟩),.slice none 0 0,.slice (some ⟨pb26, 0, none⟩) (n + 1) pc27,.int .i64 lf,.int .i64 mn,.int .i64 sz,.pointer (some ⟨pw3.heap.size, 0, none⟩),U,.slice (some ⟨x0.heap.size, 0, none⟩) 0 0,u13,u14,u15,u16,u17,u18,u19,u20,u21,u22,u23,u24,u25,u26,u27,u28,u29,u30,u31,u32,u33,u34,u35,u36,u37,u38,u39,u40,u41,u42,u43,u44,u45,u46,u47,u48,u49,u50,u51,u52,u53,u54,u55,u56,u57,.bool false,.agg (cnCells d),.agg (sgCells ⟨0, 0, d.mx, d.iN, 16, rm, 0, ByteArray.empty⟩),.pointer (some ⟨w.heap.size, 3, none⟩),.int .u32 d.nxt,.pointer (some ⟨pw3.heap.size, 2, none⟩),.pointer (some ⟨w.heap.size, 8, none⟩),.agg #[.int .u32 d.oF, .string d.oD, .int .i64 d.oR],.pointer (some ⟨w.heap.size, 3, none⟩),.int .u32 d.nxt,.int .i64 sz,.string tk,.pointer (some ⟨pw3.heap.size, 7, none⟩),.int .i64 sz,.int .i64 lf,.bool false,u74,.slice (some ⟨g, 0, none⟩) n cap,.agg (sgCells ⟨0, 0, d.nxt, d.iN, 16, rm, 0, tk⟩),.slice (some ⟨pw16.heap.size, 0, none⟩) 1 1,.slice (some ⟨pb26, 0, none⟩) (n + 1) pc27,u79,u80,u81,u82,u83,u84,u85,u86,u87,u88,u89,u90,u91,u92,u93,u94,u95,u96,u97,u98,U,U,U,U,U,U,U,U,U,U,U,U,U,U,U,U,U,U,U,U,U,U,U,U,U,U,U,U,U,U,U,U,U,U,U,U,U,U,U,U,U,U,U,U,U,U,U,U,U,U,U,U,U,U,U,U,U,U,U,U,U,U,U,U,U,U,U,U,U,U,U,U,U,U,U,U,U,U,U,U,U,U,U,U,U,U,U,U,U,U,U,U,U,U,U,U,U,U,U,U] ?_
            go_upto_region 19 with (fail)
            rcases Bool.eq_false_or_eq_true d.tmg with htg | htg
            all_goals replace htg : Hid _ := htg
            case inl =>
              refine vR ?_
              refine vV (.pointer (some ⟨w.heap.size, 28, none⟩)) ?_
              refine vD (.bool true) ((A.cell 28).trans (by show some (.bool d.tmg : Value) = some (.bool true : Value); rw [htg.out])) ?_
              refine vV (.bool false) ?_
              refine vV (.bool false) ?_
              refine vS ?_
              refine vS ?_
              refine vS ?_
              refine vS ?_
              refine vS ?_
              refine vV (.bool false) ?_
              refine vE #[.agg (cnCells c),.int .i64 now,.pointer (some ⟨w.heap.size, 0, none⟩),U,.pointer (some ⟨w.heap.size + 1, 0, none⟩),.slice none 0 0,.slice (some ⟨pb26, 0, none⟩) (n + 1) pc27,.int .i64 lf,.int .i64 mn,.int .i64 sz,.pointer (some ⟨pw3.heap.size, 0, none⟩),U,.slice (some ⟨x0.heap.size, 0, none⟩) 0 0,u13,u14,u15,u16,u17,u18,u19,u20,u21,u22,u23,u24,u25,u26,u27,u28,u29,u30,u31,u32,u33,u34,u35,u36,u37,u38,u39,u40,u41,u42,u43,u44,u45,u46,u47,u48,u49,u50,u51,u52,u53,u54,u55,u56,u57,.bool false,.agg (cnCells d),.agg (sgCells ⟨0, 0, d.mx, d.iN, 16, rm, 0, ByteArray.empty⟩),.pointer (some ⟨w.heap.size, 3, none⟩),.int .u32 d.nxt,.pointer (some ⟨pw3.heap.size, 2, none⟩),.pointer (some ⟨w.heap.size, 8, none⟩),.agg #[.int .u32 d.oF, .string d.oD, .int .i64 d.oR],.pointer (some ⟨w.heap.size, 3, none⟩),.int .u32 d.nxt,.int .i64 sz,.string tk,.pointer (some ⟨pw3.heap.size, 7, none⟩),.int .i64 sz,.int .i64 lf,.bool false,u74,.slice (some ⟨g, 0, none⟩) n cap,.agg (sgCells ⟨0, 0, d.nxt, d.iN, 16, rm, 0, tk⟩),.slice (some ⟨pw16.heap.size, 0, none⟩) 1 1,.slice (some ⟨pb26, 0, none⟩) (n + 1) pc27,.pointer (some ⟨w.heap.size, 28, none⟩),.bool true,.bool false,.bool false,U,U,U,U,U,.bool false,u89,u90,u91,u92,u93,u94,u95,u96,u97,u98,U,U,U,U,U,U,U,U,U,U,U,U,U,U,U,U,U,U,U,U,U,U,U,U,U,U,U,U,U,U,U,U,U,U,U,U,U,U,U,U,U,U,U,U,U,U,U,U,U,U,U,U,U,U,U,U,U,U,U,U,U,U,U,U,U,U,U,U,U,U,U,U,U,U,U,U,U,U,U,U,U,U,U,U,U,U,U,U,U,U,U,U,U,U,U,U,U,U,U,U] ?_
              go_upto_region 23 with (fail)
              refine vR ?_
              refine vB cn_big A (cn_size _) ?_
              refine vV (.int .i64 sz) ?_
              refine vV (.int .i64 now) ?_
              refine vK (hNb d sd.w_mx _) ?_
              intro pw28 pg29
              replace A := A.since pg29
              replace Z := Z.since pg29
              replace pB18 := pB18.since pg29
              replace pL23 := pL23.since pg29
              replace G := G.trans pg29
              have pg29_s := pg29.size
              refine sB (cnCells (wentC d sz now)) cn_big A (cn_size _) (cn_size _) (cn_one _) ?_
              intro pw30 pt31 pB32
              clear A
              replace Z := Z.touch pt31 (by omega)
              replace pB18 := pB18.touch pt31 (by omega)
              replace pL23 := pL23.touch pt31 (by omega)
              replace G := since_touch G pt31 (by omega)
              have pt31_s := pt31.size
              refine vE #[.agg (cnCells c),.int .i64 now,.pointer (some ⟨w.heap.size, 0, none⟩),U,.pointer (some ⟨w.heap.size + 1, 0, none⟩),.slice none 0 0,.slice (some ⟨pb26, 0, none⟩) (n + 1) pc27,.int .i64 lf,.int .i64 mn,.int .i64 sz,.pointer (some ⟨pw3.heap.size, 0, none⟩),U,.slice (some ⟨x0.heap.size, 0, none⟩) 0 0,u13,u14,u15,u16,u17,u18,u19,u20,u21,u22,u23,u24,u25,u26,u27,u28,u29,u30,u31,u32,u33,u34,u35,u36,u37,u38,u39,u40,u41,u42,u43,u44,u45,u46,u47,u48,u49,u50,u51,u52,u53,u54,u55,u56,u57,.bool false,.agg (cnCells d),.agg (sgCells ⟨0, 0, d.mx, d.iN, 16, rm, 0, ByteArray.empty⟩),.pointer (some ⟨w.heap.size, 3, none⟩),.int .u32 d.nxt,.pointer (some ⟨pw3.heap.size, 2, none⟩),.pointer (some ⟨w.heap.size, 8, none⟩),.agg #[.int .u32 d.oF, .string d.oD, .int .i64 d.oR],.pointer (some ⟨w.heap.size, 3, none⟩),.int .u32 d.nxt,.int .i64 sz,.string tk,.pointer (some ⟨pw3.heap.size, 7, none⟩),.int .i64 sz,.int .i64 lf,.bool false,u74,.slice (some ⟨g, 0, none⟩) n cap,.agg (sgCells ⟨0, 0, d.nxt, d.iN, 16, rm, 0, tk⟩),.slice (some ⟨pw16.heap.size, 0, none⟩) 1 1,.slice (some ⟨pb26, 0, none⟩) (n + 1) pc27,.pointer (some ⟨w.heap.size, 28, none⟩),.bool true,.bool false,.bool false,U,U,U,U,U,.bool false,u89,u90,u91,u92,u93,u94,.agg (cnCells d),.int .i64 sz,.int .i64 now,.agg (cnCells (wentC d sz now)),U,U,U,U,U,U,U,U,U,U,U,U,U,U,U,U,U,U,U,U,U,U,U,U,U,U,U,U,U,U,U,U,U,U,U,U,U,U,U,U,U,U,U,U,U,U,U,U,U,U,U,U,U,U,U,U,U,U,U,U,U,U,U,U,U,U,U,U,U,U,U,U,U,U,U,U,U,U,U,U,U,U,U,U,U,U,U,U,U,U,U,U,U,U,U,U,U,U,U,U] ?_
              have hte : timesC d now = d := by unfold timesC timesB; rw [htg.out]; rfl
              have hk2 : KeepsS c ps now (oneC d now) (n + 1) (xs ++ [pieceSg d ps]) := keeps_one hKp.out (by rw [← hlf.out, ← hsz.out]; exact hol1.2) (by unfold goesB; rw [← hsb.out, ← hsp.out]; rfl) (by rw [← hlf.out, ← hsz.out]; exact hol.out) now
              have hone : wentC d sz now = oneC d now := by unfold oneC; rw [hte, ← hsz.out]
              rw [hone] at pB32
              have hxs : Held shG pw30 w.heap.size pb26 (n + 1) pc27 (xs ++ [pieceSg d ps]) := by
                have := pL23
                unfold pieceSg
                rw [← hrm.out, ← hsz.out, ← hlf.out, ← htk.out, hfl.out]
                exact this
              go_roundw
              case rel =>
                (repeat apply Exists.intro)
                exact ⟨⟨oneC d now, _, _, _, _, rfl, pB32, Z, hxs, G, by omega, hk2⟩, rfl⟩
              case measure =>
                have m1 : pw30.cell? ⟨w.heap.size, 3, none⟩ = some (.int .u32 (oneC d now).nxt) := pB32.cell 3
                rw [m1, hA0.out]
                exact meas sd hk2.1 (by rw [← hlf.out, ← hsz.out]; exact hol.out)
            case inr =>
            by_cases hnm : d.nxt = d.mx
            all_goals replace hnm : Hid _ := hnm
            case neg =>
              have hqe : Hid ((d.nxt == d.mx) = false) := by
                show _ = _
                simpa using hnm.out
              refine vR ?_
              refine vV (.pointer (some ⟨w.heap.size, 28, none⟩)) ?_
              refine vD (.bool false) ((A.cell 28).trans (by show some (.bool d.tmg : Value) = some (.bool false : Value); rw [htg.out])) ?_
              refine vV (.bool true) ?_
              refine vV (.bool true) ?_
              refine vV (.pointer (some ⟨w.heap.size, 3, none⟩)) ?_
              refine vD (.int .u32 d.nxt) (A.cell 3) ?_
              refine vV (.pointer (some ⟨w.heap.size, 4, none⟩)) ?_
              refine vD (.int .u32 d.mx) (A.cell 4) ?_
              refine vV (.bool false) ?_ (hrun := by rw [← hqe.out]; kernel_rfl)
              refine vV (.bool false) ?_
              refine vE #[.agg (cnCells c),.int .i64 now,.pointer (some ⟨w.heap.size, 0, none⟩),U,.pointer (some ⟨w.heap.size + 1, 0, none⟩),.slice none 0 0,.slice (some ⟨pb26, 0, none⟩) (n + 1) pc27,.int .i64 lf,.int .i64 mn,.int .i64 sz,.pointer (some ⟨pw3.heap.size, 0, none⟩),U,.slice (some ⟨x0.heap.size, 0, none⟩) 0 0,u13,u14,u15,u16,u17,u18,u19,u20,u21,u22,u23,u24,u25,u26,u27,u28,u29,u30,u31,u32,u33,u34,u35,u36,u37,u38,u39,u40,u41,u42,u43,u44,u45,u46,u47,u48,u49,u50,u51,u52,u53,u54,u55,u56,u57,.bool false,.agg (cnCells d),.agg (sgCells ⟨0, 0, d.mx, d.iN, 16, rm, 0, ByteArray.empty⟩),.pointer (some ⟨w.heap.size, 3, none⟩),.int .u32 d.nxt,.pointer (some ⟨pw3.heap.size, 2, none⟩),.pointer (some ⟨w.heap.size, 8, none⟩),.agg #[.int .u32 d.oF, .string d.oD, .int .i64 d.oR],.pointer (some ⟨w.heap.size, 3, none⟩),.int .u32 d.nxt,.int .i64 sz,.string tk,.pointer (some ⟨pw3.heap.size, 7, none⟩),.int .i64 sz,.int .i64 lf,.bool false,u74,.slice (some ⟨g, 0, none⟩) n cap,.agg (sgCells ⟨0, 0, d.nxt, d.iN, 16, rm, 0, tk⟩),.slice (some ⟨pw16.heap.size, 0, none⟩) 1 1,.slice (some ⟨pb26, 0, none⟩) (n + 1) pc27,.pointer (some ⟨w.heap.size, 28, none⟩),.bool false,.bool true,.bool true,.pointer (some ⟨w.heap.size, 3, none⟩),.int .u32 d.nxt,.pointer (some ⟨w.heap.size, 4, none⟩),.int .u32 d.mx,.bool false,.bool false,u89,u90,u91,u92,u93,u94,u95,u96,u97,u98,U,U,U,U,U,U,U,U,U,U,U,U,U,U,U,U,U,U,U,U,U,U,U,U,U,U,U,U,U,U,U,U,U,U,U,U,U,U,U,U,U,U,U,U,U,U,U,U,U,U,U,U,U,U,U,U,U,U,U,U,U,U,U,U,U,U,U,U,U,U,U,U,U,U,U,U,U,U,U,U,U,U,U,U,U,U,U,U,U,U,U,U,U,U,U,U,U,U,U,U] ?_
              go_upto_region 23 with (fail)
              refine vR ?_
              refine vB cn_big A (cn_size _) ?_
              refine vV (.int .i64 sz) ?_
              refine vV (.int .i64 now) ?_
              refine vK (hNb d sd.w_mx _) ?_
              intro pw28 pg29
              replace A := A.since pg29
              replace Z := Z.since pg29
              replace pB18 := pB18.since pg29
              replace pL23 := pL23.since pg29
              replace G := G.trans pg29
              have pg29_s := pg29.size
              refine sB (cnCells (wentC d sz now)) cn_big A (cn_size _) (cn_size _) (cn_one _) ?_
              intro pw30 pt31 pB32
              clear A
              replace Z := Z.touch pt31 (by omega)
              replace pB18 := pB18.touch pt31 (by omega)
              replace pL23 := pL23.touch pt31 (by omega)
              replace G := since_touch G pt31 (by omega)
              have pt31_s := pt31.size
              refine vE #[.agg (cnCells c),.int .i64 now,.pointer (some ⟨w.heap.size, 0, none⟩),U,.pointer (some ⟨w.heap.size + 1, 0, none⟩),.slice none 0 0,.slice (some ⟨pb26, 0, none⟩) (n + 1) pc27,.int .i64 lf,.int .i64 mn,.int .i64 sz,.pointer (some ⟨pw3.heap.size, 0, none⟩),U,.slice (some ⟨x0.heap.size, 0, none⟩) 0 0,u13,u14,u15,u16,u17,u18,u19,u20,u21,u22,u23,u24,u25,u26,u27,u28,u29,u30,u31,u32,u33,u34,u35,u36,u37,u38,u39,u40,u41,u42,u43,u44,u45,u46,u47,u48,u49,u50,u51,u52,u53,u54,u55,u56,u57,.bool false,.agg (cnCells d),.agg (sgCells ⟨0, 0, d.mx, d.iN, 16, rm, 0, ByteArray.empty⟩),.pointer (some ⟨w.heap.size, 3, none⟩),.int .u32 d.nxt,.pointer (some ⟨pw3.heap.size, 2, none⟩),.pointer (some ⟨w.heap.size, 8, none⟩),.agg #[.int .u32 d.oF, .string d.oD, .int .i64 d.oR],.pointer (some ⟨w.heap.size, 3, none⟩),.int .u32 d.nxt,.int .i64 sz,.string tk,.pointer (some ⟨pw3.heap.size, 7, none⟩),.int .i64 sz,.int .i64 lf,.bool false,u74,.slice (some ⟨g, 0, none⟩) n cap,.agg (sgCells ⟨0, 0, d.nxt, d.iN, 16, rm, 0, tk⟩),.slice (some ⟨pw16.heap.size, 0, none⟩) 1 1,.slice (some ⟨pb26, 0, none⟩) (n + 1) pc27,.pointer (some ⟨w.heap.size, 28, none⟩),.bool false,.bool true,.bool true,.pointer (some ⟨w.heap.size, 3, none⟩),.int .u32 d.nxt,.pointer (some ⟨w.heap.size, 4, none⟩),.int .u32 d.mx,.bool false,.bool false,u89,u90,u91,u92,u93,u94,.agg (cnCells d),.int .i64 sz,.int .i64 now,.agg (cnCells (wentC d sz now)),U,U,U,U,U,U,U,U,U,U,U,U,U,U,U,U,U,U,U,U,U,U,U,U,U,U,U,U,U,U,U,U,U,U,U,U,U,U,U,U,U,U,U,U,U,U,U,U,U,U,U,U,U,U,U,U,U,U,U,U,U,U,U,U,U,U,U,U,U,U,U,U,U,U,U,U,U,U,U,U,U,U,U,U,U,U,U,U,U,U,U,U,U,U,U,U,U,U,U,U] ?_
              have hte : timesC d now = d := by unfold timesC timesB; rw [htg.out, decide_eq_false hnm.out]; rfl
              have hk2 : KeepsS c ps now (oneC d now) (n + 1) (xs ++ [pieceSg d ps]) := keeps_one hKp.out (by rw [← hlf.out, ← hsz.out]; exact hol1.2) (by unfold goesB; rw [← hsb.out, ← hsp.out]; rfl) (by rw [← hlf.out, ← hsz.out]; exact hol.out) now
              have hone : wentC d sz now = oneC d now := by unfold oneC; rw [hte, ← hsz.out]
              rw [hone] at pB32
              have hxs : Held shG pw30 w.heap.size pb26 (n + 1) pc27 (xs ++ [pieceSg d ps]) := by
                have := pL23
                unfold pieceSg
                rw [← hrm.out, ← hsz.out, ← hlf.out, ← htk.out, hfl.out]
                exact this
              go_roundw
              case rel =>
                (repeat apply Exists.intro)
                exact ⟨⟨oneC d now, _, _, _, _, rfl, pB32, Z, hxs, G, by omega, hk2⟩, rfl⟩
              case measure =>
                have m1 : pw30.cell? ⟨w.heap.size, 3, none⟩ = some (.int .u32 (oneC d now).nxt) := pB32.cell 3
                rw [m1, hA0.out]
                exact meas sd hk2.1 (by rw [← hlf.out, ← hsz.out]; exact hol.out)
            case pos =>
              have hqe : Hid ((d.nxt == d.mx) = true) := by
                show _ = _
                simpa using hnm.out
              refine vR ?_
              refine vV (.pointer (some ⟨w.heap.size, 28, none⟩)) ?_
              refine vD (.bool false) ((A.cell 28).trans (by show some (.bool d.tmg : Value) = some (.bool false : Value); rw [htg.out])) ?_
              refine vV (.bool true) ?_
              refine vV (.bool true) ?_
              refine vV (.pointer (some ⟨w.heap.size, 3, none⟩)) ?_
              refine vD (.int .u32 d.nxt) (A.cell 3) ?_
              refine vV (.pointer (some ⟨w.heap.size, 4, none⟩)) ?_
              refine vD (.int .u32 d.mx) (A.cell 4) ?_
              refine vV (.bool true) ?_ (hrun := by rw [← hqe.out]; kernel_rfl)
              refine vV (.bool true) ?_
              refine vE #[.agg (cnCells c),.int .i64 now,.pointer (some ⟨w.heap.size, 0, none⟩),U,.pointer (some ⟨w.heap.size + 1, 0, none⟩),.slice none 0 0,.slice (some ⟨pb26, 0, none⟩) (n + 1) pc27,.int .i64 lf,.int .i64 mn,.int .i64 sz,.pointer (some ⟨pw3.heap.size, 0, none⟩),U,.slice (some ⟨x0.heap.size, 0, none⟩) 0 0,u13,u14,u15,u16,u17,u18,u19,u20,u21,u22,u23,u24,u25,u26,u27,u28,u29,u30,u31,u32,u33,u34,u35,u36,u37,u38,u39,u40,u41,u42,u43,u44,u45,u46,u47,u48,u49,u50,u51,u52,u53,u54,u55,u56,u57,.bool false,.agg (cnCells d),.agg (sgCells ⟨0, 0, d.mx, d.iN, 16, rm, 0, ByteArray.empty⟩),.pointer (some ⟨w.heap.size, 3, none⟩),.int .u32 d.nxt,.pointer (some ⟨pw3.heap.size, 2, none⟩),.pointer (some ⟨w.heap.size, 8, none⟩),.agg #[.int .u32 d.oF, .string d.oD, .int .i64 d.oR],.pointer (some ⟨w.heap.size, 3, none⟩),.int .u32 d.nxt,.int .i64 sz,.string tk,.pointer (some ⟨pw3.heap.size, 7, none⟩),.int .i64 sz,.int .i64 lf,.bool false,u74,.slice (some ⟨g, 0, none⟩) n cap,.agg (sgCells ⟨0, 0, d.nxt, d.iN, 16, rm, 0, tk⟩),.slice (some ⟨pw16.heap.size, 0, none⟩) 1 1,.slice (some ⟨pb26, 0, none⟩) (n + 1) pc27,.pointer (some ⟨w.heap.size, 28, none⟩),.bool false,.bool true,.bool true,.pointer (some ⟨w.heap.size, 3, none⟩),.int .u32 d.nxt,.pointer (some ⟨w.heap.size, 4, none⟩),.int .u32 d.mx,.bool true,.bool true,u89,u90,u91,u92,u93,u94,u95,u96,u97,u98,U,U,U,U,U,U,U,U,U,U,U,U,U,U,U,U,U,U,U,U,U,U,U,U,U,U,U,U,U,U,U,U,U,U,U,U,U,U,U,U,U,U,U,U,U,U,U,U,U,U,U,U,U,U,U,U,U,U,U,U,U,U,U,U,U,U,U,U,U,U,U,U,U,U,U,U,U,U,U,U,U,U,U,U,U,U,U,U,U,U,U,U,U,U,U,U,U,U,U,U] ?_
              go_upto_region 20 with (fail)
              refine vR ?_
              refine vV (.pointer (some ⟨w.heap.size, 28, none⟩)) ?_
              refine sC (cnCells { d with tmg := true }) A 28 (.bool true) (cn_size _) ?_
              intro pw28 pt29 pB30
              clear A
              replace Z := Z.touch pt29 (by omega)
              replace pB18 := pB18.touch pt29 (by omega)
              replace pL23 := pL23.touch pt29 (by omega)
              replace G := since_touch G pt29 (by omega)
              have pt29_s := pt29.size
              refine vE #[.agg (cnCells c),.int .i64 now,.pointer (some ⟨w.heap.size, 0, none⟩),U,.pointer (some ⟨w.heap.size + 1, 0, none⟩),.slice none 0 0,.slice (some ⟨pb26, 0, none⟩) (n + 1) pc27,.int .i64 lf,.int .i64 mn,.int .i64 sz,.pointer (some ⟨pw3.heap.size, 0, none⟩),U,.slice (some ⟨x0.heap.size, 0, none⟩) 0 0,u13,u14,u15,u16,u17,u18,u19,u20,u21,u22,u23,u24,u25,u26,u27,u28,u29,u30,u31,u32,u33,u34,u35,u36,u37,u38,u39,u40,u41,u42,u43,u44,u45,u46,u47,u48,u49,u50,u51,u52,u53,u54,u55,u56,u57,.bool false,.agg (cnCells d),.agg (sgCells ⟨0, 0, d.mx, d.iN, 16, rm, 0, ByteArray.empty⟩),.pointer (some ⟨w.heap.size, 3, none⟩),.int .u32 d.nxt,.pointer (some ⟨pw3.heap.size, 2, none⟩),.pointer (some ⟨w.heap.size, 8, none⟩),.agg #[.int .u32 d.oF, .string d.oD, .int .i64 d.oR],.pointer (some ⟨w.heap.size, 3, none⟩),.int .u32 d.nxt,.int .i64 sz,.string tk,.pointer (some ⟨pw3.heap.size, 7, none⟩),.int .i64 sz,.int .i64 lf,.bool false,u74,.slice (some ⟨g, 0, none⟩) n cap,.agg (sgCells ⟨0, 0, d.nxt, d.iN, 16, rm, 0, tk⟩),.slice (some ⟨pw16.heap.size, 0, none⟩) 1 1,.slice (some ⟨pb26, 0, none⟩) (n + 1) pc27,.pointer (some ⟨w.heap.size, 28, none⟩),.bool false,.bool true,.bool true,.pointer (some ⟨w.heap.size, 3, none⟩),.int .u32 d.nxt,.pointer (some ⟨w.heap.size, 4, none⟩),.int .u32 d.mx,.bool true,.bool true,.pointer (some ⟨w.heap.size, 28, none⟩),u90,u91,u92,u93,u94,u95,u96,u97,u98,U,U,U,U,U,U,U,U,U,U,U,U,U,U,U,U,U,U,U,U,U,U,U,U,U,U,U,U,U,U,U,U,U,U,U,U,U,U,U,U,U,U,U,U,U,U,U,U,U,U,U,U,U,U,U,U,U,U,U,U,U,U,U,U,U,U,U,U,U,U,U,U,U,U,U,U,U,U,U,U,U,U,U,U,U,U,U,U,U,U,U,U,U,U,U,U,U,U,U,U] ?_
              go_upto_region 21 with (fail)
              refine vR ?_
              refine vV (.pointer (some ⟨w.heap.size, 3, none⟩)) ?_
              refine vD (.int .u32 d.nxt) (pB30.cell 3) ?_
              refine vV (.pointer (some ⟨w.heap.size, 29, none⟩)) ?_
              refine sC (cnCells { d with tmg := true, tsq := d.nxt }) pB30 29 (.int .u32 d.nxt) (cn_size _) ?_
              intro pw31 pt32 pB33
              clear pB30
              replace Z := Z.touch pt32 (by omega)
              replace pB18 := pB18.touch pt32 (by omega)
              replace pL23 := pL23.touch pt32 (by omega)
              replace G := since_touch G pt32 (by omega)
              have pt32_s := pt32.size
              refine vE #[.agg (cnCells c),.int .i64 now,.pointer (some ⟨w.heap.size, 0, none⟩),U,.pointer (some ⟨w.heap.size + 1, 0, none⟩),.slice none 0 0,.slice (some ⟨pb26, 0, none⟩) (n + 1) pc27,.int .i64 lf,.int .i64 mn,.int .i64 sz,.pointer (some ⟨pw3.heap.size, 0, none⟩),U,.slice (some ⟨x0.heap.size, 0, none⟩) 0 0,u13,u14,u15,u16,u17,u18,u19,u20,u21,u22,u23,u24,u25,u26,u27,u28,u29,u30,u31,u32,u33,u34,u35,u36,u37,u38,u39,u40,u41,u42,u43,u44,u45,u46,u47,u48,u49,u50,u51,u52,u53,u54,u55,u56,u57,.bool false,.agg (cnCells d),.agg (sgCells ⟨0, 0, d.mx, d.iN, 16, rm, 0, ByteArray.empty⟩),.pointer (some ⟨w.heap.size, 3, none⟩),.int .u32 d.nxt,.pointer (some ⟨pw3.heap.size, 2, none⟩),.pointer (some ⟨w.heap.size, 8, none⟩),.agg #[.int .u32 d.oF, .string d.oD, .int .i64 d.oR],.pointer (some ⟨w.heap.size, 3, none⟩),.int .u32 d.nxt,.int .i64 sz,.string tk,.pointer (some ⟨pw3.heap.size, 7, none⟩),.int .i64 sz,.int .i64 lf,.bool false,u74,.slice (some ⟨g, 0, none⟩) n cap,.agg (sgCells ⟨0, 0, d.nxt, d.iN, 16, rm, 0, tk⟩),.slice (some ⟨pw16.heap.size, 0, none⟩) 1 1,.slice (some ⟨pb26, 0, none⟩) (n + 1) pc27,.pointer (some ⟨w.heap.size, 28, none⟩),.bool false,.bool true,.bool true,.pointer (some ⟨w.heap.size, 3, none⟩),.int .u32 d.nxt,.pointer (some ⟨w.heap.size, 4, none⟩),.int .u32 d.mx,.bool true,.bool true,.pointer (some ⟨w.heap.size, 28, none⟩),.pointer (some ⟨w.heap.size, 3, none⟩),.int .u32 d.nxt,.pointer (some ⟨w.heap.size, 29, none⟩),u93,u94,u95,u96,u97,u98,U,U,U,U,U,U,U,U,U,U,U,U,U,U,U,U,U,U,U,U,U,U,U,U,U,U,U,U,U,U,U,U,U,U,U,U,U,U,U,U,U,U,U,U,U,U,U,U,U,U,U,U,U,U,U,U,U,U,U,U,U,U,U,U,U,U,U,U,U,U,U,U,U,U,U,U,U,U,U,U,U,U,U,U,U,U,U,U,U,U,U,U,U,U,U,U,U,U,U,U] ?_
              go_upto_region 22 with (fail)
              refine vR ?_
              refine vV (.int .i64 now) ?_
              refine vV (.pointer (some ⟨w.heap.size, 30, none⟩)) ?_
              refine sC (cnCells { d with tmg := true, tsq := d.nxt, tat := now }) pB33 30 (.int .i64 now) (cn_size _) ?_
              intro pw34 pt35 pB36
              clear pB33
              replace Z := Z.touch pt35 (by omega)
              replace pB18 := pB18.touch pt35 (by omega)
              replace pL23 := pL23.touch pt35 (by omega)
              replace G := since_touch G pt35 (by omega)
              have pt35_s := pt35.size
              refine vE #[.agg (cnCells c),.int .i64 now,.pointer (some ⟨w.heap.size, 0, none⟩),U,.pointer (some ⟨w.heap.size + 1, 0, none⟩),.slice none 0 0,.slice (some ⟨pb26, 0, none⟩) (n + 1) pc27,.int .i64 lf,.int .i64 mn,.int .i64 sz,.pointer (some ⟨pw3.heap.size, 0, none⟩),U,.slice (some ⟨x0.heap.size, 0, none⟩) 0 0,u13,u14,u15,u16,u17,u18,u19,u20,u21,u22,u23,u24,u25,u26,u27,u28,u29,u30,u31,u32,u33,u34,u35,u36,u37,u38,u39,u40,u41,u42,u43,u44,u45,u46,u47,u48,u49,u50,u51,u52,u53,u54,u55,u56,u57,.bool false,.agg (cnCells d),.agg (sgCells ⟨0, 0, d.mx, d.iN, 16, rm, 0, ByteArray.empty⟩),.pointer (some ⟨w.heap.size, 3, none⟩),.int .u32 d.nxt,.pointer (some ⟨pw3.heap.size, 2, none⟩),.pointer (some ⟨w.heap.size, 8, none⟩),.agg #[.int .u32 d.oF, .string d.oD, .int .i64 d.oR],.pointer (some ⟨w.heap.size, 3, none⟩),.int .u32 d.nxt,.int .i64 sz,.string tk,.pointer (some ⟨pw3.heap.size, 7, none⟩),.int .i64 sz,.int .i64 lf,.bool false,u74,.slice (some ⟨g, 0, none⟩) n cap,.agg (sgCells ⟨0, 0, d.nxt, d.iN, 16, rm, 0, tk⟩),.slice (some ⟨pw16.heap.size, 0, none⟩) 1 1,.slice (some ⟨pb26, 0, none⟩) (n + 1) pc27,.pointer (some ⟨w.heap.size, 28, none⟩),.bool false,.bool true,.bool true,.pointer (some ⟨w.heap.size, 3, none⟩),.int .u32 d.nxt,.pointer (some ⟨w.heap.size, 4, none⟩),.int .u32 d.mx,.bool true,.bool true,.pointer (some ⟨w.heap.size, 28, none⟩),.pointer (some ⟨w.heap.size, 3, none⟩),.int .u32 d.nxt,.pointer (some ⟨w.heap.size, 29, none⟩),.int .i64 now,.pointer (some ⟨w.heap.size, 30, none⟩),u95,u96,u97,u98,U,U,U,U,U,U,U,U,U,U,U,U,U,U,U,U,U,U,U,U,U,U,U,U,U,U,U,U,U,U,U,U,U,U,U,U,U,U,U,U,U,U,U,U,U,U,U,U,U,U,U,U,U,U,U,U,U,U,U,U,U,U,U,U,U,U,U,U,U,U,U,U,U,U,U,U,U,U,U,U,U,U,U,U,U,U,U,U,U,U,U,U,U,U,U,U,U,U,U,U] ?_
              go_upto_region 23 with (fail)
              refine vR ?_
              refine vB cn_big pB36 (cn_size _) ?_
              refine vV (.int .i64 sz) ?_
              refine vV (.int .i64 now) ?_
              refine vK (hNb ({ d with tmg := true, tsq := d.nxt, tat := now }) sd.w_mx _) ?_
              intro pw37 pg38
              replace pB36 := pB36.since pg38
              replace Z := Z.since pg38
              replace pB18 := pB18.since pg38
              replace pL23 := pL23.since pg38
              replace G := G.trans pg38
              have pg38_s := pg38.size
              refine sB (cnCells (wentC ({ d with tmg := true, tsq := d.nxt, tat := now }) sz now)) cn_big pB36 (cn_size _) (cn_size _) (cn_one _) ?_
              intro pw39 pt40 pB41
              clear pB36
              replace Z := Z.touch pt40 (by omega)
              replace pB18 := pB18.touch pt40 (by omega)
              replace pL23 := pL23.touch pt40 (by omega)
              replace G := since_touch G pt40 (by omega)
              have pt40_s := pt40.size
              refine vE #[.agg (cnCells c),.int .i64 now,.pointer (some ⟨w.heap.size, 0, none⟩),U,.pointer (some ⟨w.heap.size + 1, 0, none⟩),.slice none 0 0,.slice (some ⟨pb26, 0, none⟩) (n + 1) pc27,.int .i64 lf,.int .i64 mn,.int .i64 sz,.pointer (some ⟨pw3.heap.size, 0, none⟩),U,.slice (some ⟨x0.heap.size, 0, none⟩) 0 0,u13,u14,u15,u16,u17,u18,u19,u20,u21,u22,u23,u24,u25,u26,u27,u28,u29,u30,u31,u32,u33,u34,u35,u36,u37,u38,u39,u40,u41,u42,u43,u44,u45,u46,u47,u48,u49,u50,u51,u52,u53,u54,u55,u56,u57,.bool false,.agg (cnCells d),.agg (sgCells ⟨0, 0, d.mx, d.iN, 16, rm, 0, ByteArray.empty⟩),.pointer (some ⟨w.heap.size, 3, none⟩),.int .u32 d.nxt,.pointer (some ⟨pw3.heap.size, 2, none⟩),.pointer (some ⟨w.heap.size, 8, none⟩),.agg #[.int .u32 d.oF, .string d.oD, .int .i64 d.oR],.pointer (some ⟨w.heap.size, 3, none⟩),.int .u32 d.nxt,.int .i64 sz,.string tk,.pointer (some ⟨pw3.heap.size, 7, none⟩),.int .i64 sz,.int .i64 lf,.bool false,u74,.slice (some ⟨g, 0, none⟩) n cap,.agg (sgCells ⟨0, 0, d.nxt, d.iN, 16, rm, 0, tk⟩),.slice (some ⟨pw16.heap.size, 0, none⟩) 1 1,.slice (some ⟨pb26, 0, none⟩) (n + 1) pc27,.pointer (some ⟨w.heap.size, 28, none⟩),.bool false,.bool true,.bool true,.pointer (some ⟨w.heap.size, 3, none⟩),.int .u32 d.nxt,.pointer (some ⟨w.heap.size, 4, none⟩),.int .u32 d.mx,.bool true,.bool true,.pointer (some ⟨w.heap.size, 28, none⟩),.pointer (some ⟨w.heap.size, 3, none⟩),.int .u32 d.nxt,.pointer (some ⟨w.heap.size, 29, none⟩),.int .i64 now,.pointer (some ⟨w.heap.size, 30, none⟩),.agg (cnCells { d with tmg := true, tsq := d.nxt, tat := now }),.int .i64 sz,.int .i64 now,.agg (cnCells (wentC ({ d with tmg := true, tsq := d.nxt, tat := now }) sz now)),U,U,U,U,U,U,U,U,U,U,U,U,U,U,U,U,U,U,U,U,U,U,U,U,U,U,U,U,U,U,U,U,U,U,U,U,U,U,U,U,U,U,U,U,U,U,U,U,U,U,U,U,U,U,U,U,U,U,U,U,U,U,U,U,U,U,U,U,U,U,U,U,U,U,U,U,U,U,U,U,U,U,U,U,U,U,U,U,U,U,U,U,U,U,U,U,U,U,U,U] ?_
              have hte : timesC d now = { d with tmg := true, tsq := d.nxt, tat := now } := by unfold timesC timesB; rw [htg.out, decide_eq_true hnm.out]; rfl
              have hk2 : KeepsS c ps now (oneC d now) (n + 1) (xs ++ [pieceSg d ps]) := keeps_one hKp.out (by rw [← hlf.out, ← hsz.out]; exact hol1.2) (by unfold goesB; rw [← hsb.out, ← hsp.out]; rfl) (by rw [← hlf.out, ← hsz.out]; exact hol.out) now
              have hone : wentC ({ d with tmg := true, tsq := d.nxt, tat := now }) sz now = oneC d now := by unfold oneC; rw [hte, ← hsz.out]
              rw [hone] at pB41
              have hxs : Held shG pw39 w.heap.size pb26 (n + 1) pc27 (xs ++ [pieceSg d ps]) := by
                have := pL23
                unfold pieceSg
                rw [← hrm.out, ← hsz.out, ← hlf.out, ← htk.out, hfl.out]
                exact this
              go_roundw
              case rel =>
                (repeat apply Exists.intro)
                exact ⟨⟨oneC d now, _, _, _, _, rfl, pB41, Z, hxs, G, by omega, hk2⟩, rfl⟩
              case measure =>
                have m1 : pw39.cell? ⟨w.heap.size, 3, none⟩ = some (.int .u32 (oneC d now).nxt) := pB41.cell 3
                rw [m1, hA0.out]
                exact meas sd hk2.1 (by rw [← hlf.out, ← hsz.out]; exact hol.out)
          case true =>
            have hfl : Hid ((if sz = lf then 24 else 16 : Int) = 24) := by
              have := hb4.out
              simp at this
              exact if_pos this
            go_upto_region 17 with (fail)
            refine vR ?_
            refine vV (.pointer (some ⟨pw3.heap.size, 4, none⟩)) ?_
            refine sC (sgCells ⟨0, 0, d.nxt, d.iN, 24, rm, 0, tk⟩) pB18 4 (.int .i64 24) rfl ?_
            intro pw19 pt20 pB21
            clear pB18
            replace A := A.touch pt20 (by omega)
            replace Z := Z.touch pt20 (by omega)
            replace L := L.touch pt20 (by omega)
            replace G := since_touch G pt20 (by omega)
            have pt20_s := pt20.size
            refine vE #[.agg (cnCells c),.int .i64 now,.pointer (some ⟨w.heap.size, 0, none⟩),U,.pointer (some ⟨w.heap.size + 1, 0, none⟩),.slice none 0 0,.slice (some ⟨g, 0, none⟩) n cap,.int .i64 lf,.int .i64 mn,.int .i64 sz,.pointer (some ⟨pw3.heap.size, 0, none⟩),U,.slice (some ⟨x0.heap.size, 0, none⟩) 0 0,u13,u14,u15,u16,u17,u18,u19,u20,u21,u22,u23,u24,u25,u26,u27,u28,u29,u30,u31,u32,u33,u34,u35,u36,u37,u38,u39,u40,u41,u42,u43,u44,u45,u46,u47,u48,u49,u50,u51,u52,u53,u54,u55,u56,u57,.bool false,.agg (cnCells d),.agg (sgCells ⟨0, 0, d.mx, d.iN, 16, rm, 0, ByteArray.empty⟩),.pointer (some ⟨w.heap.size, 3, none⟩),.int .u32 d.nxt,.pointer (some ⟨pw3.heap.size, 2, none⟩),.pointer (some ⟨w.heap.size, 8, none⟩),.agg #[.int .u32 d.oF, .string d.oD, .int .i64 d.oR],.pointer (some ⟨w.heap.size, 3, none⟩),.int .u32 d.nxt,.int .i64 sz,.string tk,.pointer (some ⟨pw3.heap.size, 7, none⟩),.int .i64 sz,.int .i64 lf,.bool true,.pointer (some ⟨pw3.heap.size, 4, none⟩),u75,u76,u77,u78,u79,u80,u81,u82,u83,u84,u85,u86,u87,u88,u89,u90,u91,u92,u93,u94,u95,u96,u97,u98,U,U,U,U,U,U,U,U,U,U,U,U,U,U,U,U,U,U,U,U,U,U,U,U,U,U,U,U,U,U,U,U,U,U,U,U,U,U,U,U,U,U,U,U,U,U,U,U,U,U,U,U,U,U,U,U,U,U,U,U,U,U,U,U,U,U,U,U,U,U,U,U,U,U,U,U,U,U,U,U,U,U,U,U,U,U,U,U,U,U,U,U,U,U,U,U,U,U,U,U] ?_
            go_upto_region 18 with (fail)
            refine vR ?_
            refine vV (.slice (some ⟨g, 0, none⟩) n cap) ?_
            refine vB seg_big pB21 rfl ?_
            refine vW (pw19.alloc (.cells (sgCells ⟨0, 0, d.nxt, d.iN, 24, rm, 0, tk⟩) 61)) (.slice (some ⟨pw19.heap.size, 0, none⟩) 1 1) ?_
            have pL23 := heldG1 pw19 (⟨0, 0, d.nxt, d.iN, 24, rm, 0, tk⟩)
            have pg24 := (Since.refl pw19).alloc (.cells (sgCells ⟨0, 0, d.nxt, d.iN, 24, rm, 0, tk⟩) 61)
            replace A := A.since pg24
            replace Z := Z.since pg24
            replace pB21 := pB21.since pg24
            replace L := L.since pg24
            replace G := G.trans pg24
            generalize pw19.alloc (.cells (sgCells ⟨0, 0, d.nxt, d.iN, 24, rm, 0, tk⟩) 61) = pw22 at A Z pB21 L G pL23 pg24 ⊢
            have pg24_s := pg24.size
            have pL23_l := pL23.lt
            refine vA L pL23.reads (by unfold maxLen; omega) (by omega) (by have := G.size; omega) ?_
            intro pb29 pc30 pw25 pL26 pr27 ho
            have pt28 := touch_grownG pr27
            have pL26_o := L.low'
            have pL26_p := L.lt
            replace ho := own_or ho
            replace A := A.touch pt28 (by omega)
            replace Z := Z.touch pt28 (by omega)
            replace pB21 := pB21.touch pt28 (by omega)
            replace G := since_touch G pt28 (by omega)
            have pt28_s := pt28.size
            have pL26_o2 := pL26.low'
            have pL26_l := pL26.lt
            clear L pL23
            refine vV (.slice (some ⟨pb29, 0, none⟩) (n + 1) pc30) ?_
            refine vE #[.agg (cnCells c),.int .i64 now,.pointer (some ⟨w.heap.size, 0, none⟩),U,.pointer (some ⟨w.heap.size + 1, 0, none⟩),.slice none 0 0,.slice (some ⟨pb29, 0, none⟩) (n + 1) pc30,.int .i64 lf,.int .i64 mn,.int .i64 sz,.pointer (some ⟨pw3.heap.size, 0, none⟩),U,.slice (some ⟨x0.heap.size, 0, none⟩) 0 0,u13,u14,u15,u16,u17,u18,u19,u20,u21,u22,u23,u24,u25,u26,u27,u28,u29,u30,u31,u32,u33,u34,u35,u36,u37,u38,u39,u40,u41,u42,u43,u44,u45,u46,u47,u48,u49,u50,u51,u52,u53,u54,u55,u56,u57,.bool false,.agg (cnCells d),.agg (sgCells ⟨0, 0, d.mx, d.iN, 16, rm, 0, ByteArray.empty⟩),.pointer (some ⟨w.heap.size, 3, none⟩),.int .u32 d.nxt,.pointer (some ⟨pw3.heap.size, 2, none⟩),.pointer (some ⟨w.heap.size, 8, none⟩),.agg #[.int .u32 d.oF, .string d.oD, .int .i64 d.oR],.pointer (some ⟨w.heap.size, 3, none⟩),.int .u32 d.nxt,.int .i64 sz,.string tk,.pointer (some ⟨pw3.heap.size, 7, none⟩),.int .i64 sz,.int .i64 lf,.bool true,.pointer (some ⟨pw3.heap.size, 4, none⟩),.slice (some ⟨g, 0, none⟩) n cap,.agg (sgCells ⟨0, 0, d.nxt, d.iN, 24, rm, 0, tk⟩),.slice (some ⟨pw19.heap.size, 0, none⟩) 1 1,.slice (some ⟨pb29, 0, none⟩) (n + 1) pc30,u79,u80,u81,u82,u83,u84,u85,u86,u87,u88,u89,u90,u91,u92,u93,u94,u95,u96,u97,u98,U,U,U,U,U,U,U,U,U,U,U,U,U,U,U,U,U,U,U,U,U,U,U,U,U,U,U,U,U,U,U,U,U,U,U,U,U,U,U,U,U,U,U,U,U,U,U,U,U,U,U,U,U,U,U,U,U,U,U,U,U,U,U,U,U,U,U,U,U,U,U,U,U,U,U,U,U,U,U,U,U,U,U,U,U,U,U,U,U,U,U,U,U,U,U,U,U,U,U,U] ?_
            go_upto_region 19 with (fail)
            rcases Bool.eq_false_or_eq_true d.tmg with htg | htg
            all_goals replace htg : Hid _ := htg
            case inl =>
              refine vR ?_
              refine vV (.pointer (some ⟨w.heap.size, 28, none⟩)) ?_
              refine vD (.bool true) ((A.cell 28).trans (by show some (.bool d.tmg : Value) = some (.bool true : Value); rw [htg.out])) ?_
              refine vV (.bool false) ?_
              refine vV (.bool false) ?_
              refine vS ?_
              refine vS ?_
              refine vS ?_
              refine vS ?_
              refine vS ?_
              refine vV (.bool false) ?_
              refine vE #[.agg (cnCells c),.int .i64 now,.pointer (some ⟨w.heap.size, 0, none⟩),U,.pointer (some ⟨w.heap.size + 1, 0, none⟩),.slice none 0 0,.slice (some ⟨pb29, 0, none⟩) (n + 1) pc30,.int .i64 lf,.int .i64 mn,.int .i64 sz,.pointer (some ⟨pw3.heap.size, 0, none⟩),U,.slice (some ⟨x0.heap.size, 0, none⟩) 0 0,u13,u14,u15,u16,u17,u18,u19,u20,u21,u22,u23,u24,u25,u26,u27,u28,u29,u30,u31,u32,u33,u34,u35,u36,u37,u38,u39,u40,u41,u42,u43,u44,u45,u46,u47,u48,u49,u50,u51,u52,u53,u54,u55,u56,u57,.bool false,.agg (cnCells d),.agg (sgCells ⟨0, 0, d.mx, d.iN, 16, rm, 0, ByteArray.empty⟩),.pointer (some ⟨w.heap.size, 3, none⟩),.int .u32 d.nxt,.pointer (some ⟨pw3.heap.size, 2, none⟩),.pointer (some ⟨w.heap.size, 8, none⟩),.agg #[.int .u32 d.oF, .string d.oD, .int .i64 d.oR],.pointer (some ⟨w.heap.size, 3, none⟩),.int .u32 d.nxt,.int .i64 sz,.string tk,.pointer (some ⟨pw3.heap.size, 7, none⟩),.int .i64 sz,.int .i64 lf,.bool true,.pointer (some ⟨pw3.heap.size, 4, none⟩),.slice (some ⟨g, 0, none⟩) n cap,.agg (sgCells ⟨0, 0, d.nxt, d.iN, 24, rm, 0, tk⟩),.slice (some ⟨pw19.heap.size, 0, none⟩) 1 1,.slice (some ⟨pb29, 0, none⟩) (n + 1) pc30,.pointer (some ⟨w.heap.size, 28, none⟩),.bool true,.bool false,.bool false,U,U,U,U,U,.bool false,u89,u90,u91,u92,u93,u94,u95,u96,u97,u98,U,U,U,U,U,U,U,U,U,U,U,U,U,U,U,U,U,U,U,U,U,U,U,U,U,U,U,U,U,U,U,U,U,U,U,U,U,U,U,U,U,U,U,U,U,U,U,U,U,U,U,U,U,U,U,U,U,U,U,U,U,U,U,U,U,U,U,U,U,U,U,U,U,U,U,U,U,U,U,U,U,U,U,U,U,U,U,U,U,U,U,U,U,U,U,U,U,U,U,U] ?_
              go_upto_region 23 with (fail)
              refine vR ?_
              refine vB cn_big A (cn_size _) ?_
              refine vV (.int .i64 sz) ?_
              refine vV (.int .i64 now) ?_
              refine vK (hNb d sd.w_mx _) ?_
              intro pw31 pg32
              replace A := A.since pg32
              replace Z := Z.since pg32
              replace pB21 := pB21.since pg32
              replace pL26 := pL26.since pg32
              replace G := G.trans pg32
              have pg32_s := pg32.size
              refine sB (cnCells (wentC d sz now)) cn_big A (cn_size _) (cn_size _) (cn_one _) ?_
              intro pw33 pt34 pB35
              clear A
              replace Z := Z.touch pt34 (by omega)
              replace pB21 := pB21.touch pt34 (by omega)
              replace pL26 := pL26.touch pt34 (by omega)
              replace G := since_touch G pt34 (by omega)
              have pt34_s := pt34.size
              refine vE #[.agg (cnCells c),.int .i64 now,.pointer (some ⟨w.heap.size, 0, none⟩),U,.pointer (some ⟨w.heap.size + 1, 0, none⟩),.slice none 0 0,.slice (some ⟨pb29, 0, none⟩) (n + 1) pc30,.int .i64 lf,.int .i64 mn,.int .i64 sz,.pointer (some ⟨pw3.heap.size, 0, none⟩),U,.slice (some ⟨x0.heap.size, 0, none⟩) 0 0,u13,u14,u15,u16,u17,u18,u19,u20,u21,u22,u23,u24,u25,u26,u27,u28,u29,u30,u31,u32,u33,u34,u35,u36,u37,u38,u39,u40,u41,u42,u43,u44,u45,u46,u47,u48,u49,u50,u51,u52,u53,u54,u55,u56,u57,.bool false,.agg (cnCells d),.agg (sgCells ⟨0, 0, d.mx, d.iN, 16, rm, 0, ByteArray.empty⟩),.pointer (some ⟨w.heap.size, 3, none⟩),.int .u32 d.nxt,.pointer (some ⟨pw3.heap.size, 2, none⟩),.pointer (some ⟨w.heap.size, 8, none⟩),.agg #[.int .u32 d.oF, .string d.oD, .int .i64 d.oR],.pointer (some ⟨w.heap.size, 3, none⟩),.int .u32 d.nxt,.int .i64 sz,.string tk,.pointer (some ⟨pw3.heap.size, 7, none⟩),.int .i64 sz,.int .i64 lf,.bool true,.pointer (some ⟨pw3.heap.size, 4, none⟩),.slice (some ⟨g, 0, none⟩) n cap,.agg (sgCells ⟨0, 0, d.nxt, d.iN, 24, rm, 0, tk⟩),.slice (some ⟨pw19.heap.size, 0, none⟩) 1 1,.slice (some ⟨pb29, 0, none⟩) (n + 1) pc30,.pointer (some ⟨w.heap.size, 28, none⟩),.bool true,.bool false,.bool false,U,U,U,U,U,.bool false,u89,u90,u91,u92,u93,u94,.agg (cnCells d),.int .i64 sz,.int .i64 now,.agg (cnCells (wentC d sz now)),U,U,U,U,U,U,U,U,U,U,U,U,U,U,U,U,U,U,U,U,U,U,U,U,U,U,U,U,U,U,U,U,U,U,U,U,U,U,U,U,U,U,U,U,U,U,U,U,U,U,U,U,U,U,U,U,U,U,U,U,U,U,U,U,U,U,U,U,U,U,U,U,U,U,U,U,U,U,U,U,U,U,U,U,U,U,U,U,U,U,U,U,U,U,U,U,U,U,U,U] ?_
              have hte : timesC d now = d := by unfold timesC timesB; rw [htg.out]; rfl
              have hk2 : KeepsS c ps now (oneC d now) (n + 1) (xs ++ [pieceSg d ps]) := keeps_one hKp.out (by rw [← hlf.out, ← hsz.out]; exact hol1.2) (by unfold goesB; rw [← hsb.out, ← hsp.out]; rfl) (by rw [← hlf.out, ← hsz.out]; exact hol.out) now
              have hone : wentC d sz now = oneC d now := by unfold oneC; rw [hte, ← hsz.out]
              rw [hone] at pB35
              have hxs : Held shG pw33 w.heap.size pb29 (n + 1) pc30 (xs ++ [pieceSg d ps]) := by
                have := pL26
                unfold pieceSg
                rw [← hrm.out, ← hsz.out, ← hlf.out, ← htk.out, hfl.out]
                exact this
              go_roundw
              case rel =>
                (repeat apply Exists.intro)
                exact ⟨⟨oneC d now, _, _, _, _, rfl, pB35, Z, hxs, G, by omega, hk2⟩, rfl⟩
              case measure =>
                have m1 : pw33.cell? ⟨w.heap.size, 3, none⟩ = some (.int .u32 (oneC d now).nxt) := pB35.cell 3
                rw [m1, hA0.out]
                exact meas sd hk2.1 (by rw [← hlf.out, ← hsz.out]; exact hol.out)
            case inr =>
            by_cases hnm : d.nxt = d.mx
            all_goals replace hnm : Hid _ := hnm
            case neg =>
              have hqe : Hid ((d.nxt == d.mx) = false) := by
                show _ = _
                simpa using hnm.out
              refine vR ?_
              refine vV (.pointer (some ⟨w.heap.size, 28, none⟩)) ?_
              refine vD (.bool false) ((A.cell 28).trans (by show some (.bool d.tmg : Value) = some (.bool false : Value); rw [htg.out])) ?_
              refine vV (.bool true) ?_
              refine vV (.bool true) ?_
              refine vV (.pointer (some ⟨w.heap.size, 3, none⟩)) ?_
              refine vD (.int .u32 d.nxt) (A.cell 3) ?_
              refine vV (.pointer (some ⟨w.heap.size, 4, none⟩)) ?_
              refine vD (.int .u32 d.mx) (A.cell 4) ?_
              refine vV (.bool false) ?_ (hrun := by rw [← hqe.out]; kernel_rfl)
              refine vV (.bool false) ?_
              refine vE #[.agg (cnCells c),.int .i64 now,.pointer (some ⟨w.heap.size, 0, none⟩),U,.pointer (some ⟨w.heap.size + 1, 0, none⟩),.slice none 0 0,.slice (some ⟨pb29, 0, none⟩) (n + 1) pc30,.int .i64 lf,.int .i64 mn,.int .i64 sz,.pointer (some ⟨pw3.heap.size, 0, none⟩),U,.slice (some ⟨x0.heap.size, 0, none⟩) 0 0,u13,u14,u15,u16,u17,u18,u19,u20,u21,u22,u23,u24,u25,u26,u27,u28,u29,u30,u31,u32,u33,u34,u35,u36,u37,u38,u39,u40,u41,u42,u43,u44,u45,u46,u47,u48,u49,u50,u51,u52,u53,u54,u55,u56,u57,.bool false,.agg (cnCells d),.agg (sgCells ⟨0, 0, d.mx, d.iN, 16, rm, 0, ByteArray.empty⟩),.pointer (some ⟨w.heap.size, 3, none⟩),.int .u32 d.nxt,.pointer (some ⟨pw3.heap.size, 2, none⟩),.pointer (some ⟨w.heap.size, 8, none⟩),.agg #[.int .u32 d.oF, .string d.oD, .int .i64 d.oR],.pointer (some ⟨w.heap.size, 3, none⟩),.int .u32 d.nxt,.int .i64 sz,.string tk,.pointer (some ⟨pw3.heap.size, 7, none⟩),.int .i64 sz,.int .i64 lf,.bool true,.pointer (some ⟨pw3.heap.size, 4, none⟩),.slice (some ⟨g, 0, none⟩) n cap,.agg (sgCells ⟨0, 0, d.nxt, d.iN, 24, rm, 0, tk⟩),.slice (some ⟨pw19.heap.size, 0, none⟩) 1 1,.slice (some ⟨pb29, 0, none⟩) (n + 1) pc30,.pointer (some ⟨w.heap.size, 28, none⟩),.bool false,.bool true,.bool true,.pointer (some ⟨w.heap.size, 3, none⟩),.int .u32 d.nxt,.pointer (some ⟨w.heap.size, 4, none⟩),.int .u32 d.mx,.bool false,.bool false,u89,u90,u91,u92,u93,u94,u95,u96,u97,u98,U,U,U,U,U,U,U,U,U,U,U,U,U,U,U,U,U,U,U,U,U,U,U,U,U,U,U,U,U,U,U,U,U,U,U,U,U,U,U,U,U,U,U,U,U,U,U,U,U,U,U,U,U,U,U,U,U,U,U,U,U,U,U,U,U,U,U,U,U,U,U,U,U,U,U,U,U,U,U,U,U,U,U,U,U,U,U,U,U,U,U,U,U,U,U,U,U,U,U,U] ?_
              go_upto_region 23 with (fail)
              refine vR ?_
              refine vB cn_big A (cn_size _) ?_
              refine vV (.int .i64 sz) ?_
              refine vV (.int .i64 now) ?_
              refine vK (hNb d sd.w_mx _) ?_
              intro pw31 pg32
              replace A := A.since pg32
              replace Z := Z.since pg32
              replace pB21 := pB21.since pg32
              replace pL26 := pL26.since pg32
              replace G := G.trans pg32
              have pg32_s := pg32.size
              refine sB (cnCells (wentC d sz now)) cn_big A (cn_size _) (cn_size _) (cn_one _) ?_
              intro pw33 pt34 pB35
              clear A
              replace Z := Z.touch pt34 (by omega)
              replace pB21 := pB21.touch pt34 (by omega)
              replace pL26 := pL26.touch pt34 (by omega)
              replace G := since_touch G pt34 (by omega)
              have pt34_s := pt34.size
              refine vE #[.agg (cnCells c),.int .i64 now,.pointer (some ⟨w.heap.size, 0, none⟩),U,.pointer (some ⟨w.heap.size + 1, 0, none⟩),.slice none 0 0,.slice (some ⟨pb29, 0, none⟩) (n + 1) pc30,.int .i64 lf,.int .i64 mn,.int .i64 sz,.pointer (some ⟨pw3.heap.size, 0, none⟩),U,.slice (some ⟨x0.heap.size, 0, none⟩) 0 0,u13,u14,u15,u16,u17,u18,u19,u20,u21,u22,u23,u24,u25,u26,u27,u28,u29,u30,u31,u32,u33,u34,u35,u36,u37,u38,u39,u40,u41,u42,u43,u44,u45,u46,u47,u48,u49,u50,u51,u52,u53,u54,u55,u56,u57,.bool false,.agg (cnCells d),.agg (sgCells ⟨0, 0, d.mx, d.iN, 16, rm, 0, ByteArray.empty⟩),.pointer (some ⟨w.heap.size, 3, none⟩),.int .u32 d.nxt,.pointer (some ⟨pw3.heap.size, 2, none⟩),.pointer (some ⟨w.heap.size, 8, none⟩),.agg #[.int .u32 d.oF, .string d.oD, .int .i64 d.oR],.pointer (some ⟨w.heap.size, 3, none⟩),.int .u32 d.nxt,.int .i64 sz,.string tk,.pointer (some ⟨pw3.heap.size, 7, none⟩),.int .i64 sz,.int .i64 lf,.bool true,.pointer (some ⟨pw3.heap.size, 4, none⟩),.slice (some ⟨g, 0, none⟩) n cap,.agg (sgCells ⟨0, 0, d.nxt, d.iN, 24, rm, 0, tk⟩),.slice (some ⟨pw19.heap.size, 0, none⟩) 1 1,.slice (some ⟨pb29, 0, none⟩) (n + 1) pc30,.pointer (some ⟨w.heap.size, 28, none⟩),.bool false,.bool true,.bool true,.pointer (some ⟨w.heap.size, 3, none⟩),.int .u32 d.nxt,.pointer (some ⟨w.heap.size, 4, none⟩),.int .u32 d.mx,.bool false,.bool false,u89,u90,u91,u92,u93,u94,.agg (cnCells d),.int .i64 sz,.int .i64 now,.agg (cnCells (wentC d sz now)),U,U,U,U,U,U,U,U,U,U,U,U,U,U,U,U,U,U,U,U,U,U,U,U,U,U,U,U,U,U,U,U,U,U,U,U,U,U,U,U,U,U,U,U,U,U,U,U,U,U,U,U,U,U,U,U,U,U,U,U,U,U,U,U,U,U,U,U,U,U,U,U,U,U,U,U,U,U,U,U,U,U,U,U,U,U,U,U,U,U,U,U,U,U,U,U,U,U,U,U] ?_
              have hte : timesC d now = d := by unfold timesC timesB; rw [htg.out, decide_eq_false hnm.out]; rfl
              have hk2 : KeepsS c ps now (oneC d now) (n + 1) (xs ++ [pieceSg d ps]) := keeps_one hKp.out (by rw [← hlf.out, ← hsz.out]; exact hol1.2) (by unfold goesB; rw [← hsb.out, ← hsp.out]; rfl) (by rw [← hlf.out, ← hsz.out]; exact hol.out) now
              have hone : wentC d sz now = oneC d now := by unfold oneC; rw [hte, ← hsz.out]
              rw [hone] at pB35
              have hxs : Held shG pw33 w.heap.size pb29 (n + 1) pc30 (xs ++ [pieceSg d ps]) := by
                have := pL26
                unfold pieceSg
                rw [← hrm.out, ← hsz.out, ← hlf.out, ← htk.out, hfl.out]
                exact this
              go_roundw
              case rel =>
                (repeat apply Exists.intro)
                exact ⟨⟨oneC d now, _, _, _, _, rfl, pB35, Z, hxs, G, by omega, hk2⟩, rfl⟩
              case measure =>
                have m1 : pw33.cell? ⟨w.heap.size, 3, none⟩ = some (.int .u32 (oneC d now).nxt) := pB35.cell 3
                rw [m1, hA0.out]
                exact meas sd hk2.1 (by rw [← hlf.out, ← hsz.out]; exact hol.out)
            case pos =>
              have hqe : Hid ((d.nxt == d.mx) = true) := by
                show _ = _
                simpa using hnm.out
              refine vR ?_
              refine vV (.pointer (some ⟨w.heap.size, 28, none⟩)) ?_
              refine vD (.bool false) ((A.cell 28).trans (by show some (.bool d.tmg : Value) = some (.bool false : Value); rw [htg.out])) ?_
              refine vV (.bool true) ?_
              refine vV (.bool true) ?_
              refine vV (.pointer (some ⟨w.heap.size, 3, none⟩)) ?_
              refine vD (.int .u32 d.nxt) (A.cell 3) ?_
              refine vV (.pointer (some ⟨w.heap.size, 4, none⟩)) ?_
              refine vD (.int .u32 d.mx) (A.cell 4) ?_
              refine vV (.bool true) ?_ (hrun := by rw [← hqe.out]; kernel_rfl)
              refine vV (.bool true) ?_
              refine vE #[.agg (cnCells c),.int .i64 now,.pointer (some ⟨w.heap.size, 0, none⟩),U,.pointer (some ⟨w.heap.size + 1, 0, none⟩),.slice none 0 0,.slice (some ⟨pb29, 0, none⟩) (n + 1) pc30,.int .i64 lf,.int .i64 mn,.int .i64 sz,.pointer (some ⟨pw3.heap.size, 0, none⟩),U,.slice (some ⟨x0.heap.size, 0, none⟩) 0 0,u13,u14,u15,u16,u17,u18,u19,u20,u21,u22,u23,u24,u25,u26,u27,u28,u29,u30,u31,u32,u33,u34,u35,u36,u37,u38,u39,u40,u41,u42,u43,u44,u45,u46,u47,u48,u49,u50,u51,u52,u53,u54,u55,u56,u57,.bool false,.agg (cnCells d),.agg (sgCells ⟨0, 0, d.mx, d.iN, 16, rm, 0, ByteArray.empty⟩),.pointer (some ⟨w.heap.size, 3, none⟩),.int .u32 d.nxt,.pointer (some ⟨pw3.heap.size, 2, none⟩),.pointer (some ⟨w.heap.size, 8, none⟩),.agg #[.int .u32 d.oF, .string d.oD, .int .i64 d.oR],.pointer (some ⟨w.heap.size, 3, none⟩),.int .u32 d.nxt,.int .i64 sz,.string tk,.pointer (some ⟨pw3.heap.size, 7, none⟩),.int .i64 sz,.int .i64 lf,.bool true,.pointer (some ⟨pw3.heap.size, 4, none⟩),.slice (some ⟨g, 0, none⟩) n cap,.agg (sgCells ⟨0, 0, d.nxt, d.iN, 24, rm, 0, tk⟩),.slice (some ⟨pw19.heap.size, 0, none⟩) 1 1,.slice (some ⟨pb29, 0, none⟩) (n + 1) pc30,.pointer (some ⟨w.heap.size, 28, none⟩),.bool false,.bool true,.bool true,.pointer (some ⟨w.heap.size, 3, none⟩),.int .u32 d.nxt,.pointer (some ⟨w.heap.size, 4, none⟩),.int .u32 d.mx,.bool true,.bool true,u89,u90,u91,u92,u93,u94,u95,u96,u97,u98,U,U,U,U,U,U,U,U,U,U,U,U,U,U,U,U,U,U,U,U,U,U,U,U,U,U,U,U,U,U,U,U,U,U,U,U,U,U,U,U,U,U,U,U,U,U,U,U,U,U,U,U,U,U,U,U,U,U,U,U,U,U,U,U,U,U,U,U,U,U,U,U,U,U,U,U,U,U,U,U,U,U,U,U,U,U,U,U,U,U,U,U,U,U,U,U,U,U,U,U] ?_
              go_upto_region 20 with (fail)
              refine vR ?_
              refine vV (.pointer (some ⟨w.heap.size, 28, none⟩)) ?_
              refine sC (cnCells { d with tmg := true }) A 28 (.bool true) (cn_size _) ?_
              intro pw31 pt32 pB33
              clear A
              replace Z := Z.touch pt32 (by omega)
              replace pB21 := pB21.touch pt32 (by omega)
              replace pL26 := pL26.touch pt32 (by omega)
              replace G := since_touch G pt32 (by omega)
              have pt32_s := pt32.size
              refine vE #[.agg (cnCells c),.int .i64 now,.pointer (some ⟨w.heap.size, 0, none⟩),U,.pointer (some ⟨w.heap.size + 1, 0, none⟩),.slice none 0 0,.slice (some ⟨pb29, 0, none⟩) (n + 1) pc30,.int .i64 lf,.int .i64 mn,.int .i64 sz,.pointer (some ⟨pw3.heap.size, 0, none⟩),U,.slice (some ⟨x0.heap.size, 0, none⟩) 0 0,u13,u14,u15,u16,u17,u18,u19,u20,u21,u22,u23,u24,u25,u26,u27,u28,u29,u30,u31,u32,u33,u34,u35,u36,u37,u38,u39,u40,u41,u42,u43,u44,u45,u46,u47,u48,u49,u50,u51,u52,u53,u54,u55,u56,u57,.bool false,.agg (cnCells d),.agg (sgCells ⟨0, 0, d.mx, d.iN, 16, rm, 0, ByteArray.empty⟩),.pointer (some ⟨w.heap.size, 3, none⟩),.int .u32 d.nxt,.pointer (some ⟨pw3.heap.size, 2, none⟩),.pointer (some ⟨w.heap.size, 8, none⟩),.agg #[.int .u32 d.oF, .string d.oD, .int .i64 d.oR],.pointer (some ⟨w.heap.size, 3, none⟩),.int .u32 d.nxt,.int .i64 sz,.string tk,.pointer (some ⟨pw3.heap.size, 7, none⟩),.int .i64 sz,.int .i64 lf,.bool true,.pointer (some ⟨pw3.heap.size, 4, none⟩),.slice (some ⟨g, 0, none⟩) n cap,.agg (sgCells ⟨0, 0, d.nxt, d.iN, 24, rm, 0, tk⟩),.slice (some ⟨pw19.heap.size, 0, none⟩) 1 1,.slice (some ⟨pb29, 0, none⟩) (n + 1) pc30,.pointer (some ⟨w.heap.size, 28, none⟩),.bool false,.bool true,.bool true,.pointer (some ⟨w.heap.size, 3, none⟩),.int .u32 d.nxt,.pointer (some ⟨w.heap.size, 4, none⟩),.int .u32 d.mx,.bool true,.bool true,.pointer (some ⟨w.heap.size, 28, none⟩),u90,u91,u92,u93,u94,u95,u96,u97,u98,U,U,U,U,U,U,U,U,U,U,U,U,U,U,U,U,U,U,U,U,U,U,U,U,U,U,U,U,U,U,U,U,U,U,U,U,U,U,U,U,U,U,U,U,U,U,U,U,U,U,U,U,U,U,U,U,U,U,U,U,U,U,U,U,U,U,U,U,U,U,U,U,U,U,U,U,U,U,U,U,U,U,U,U,U,U,U,U,U,U,U,U,U,U,U,U,U,U,U,U] ?_
              go_upto_region 21 with (fail)
              refine vR ?_
              refine vV (.pointer (some ⟨w.heap.size, 3, none⟩)) ?_
              refine vD (.int .u32 d.nxt) (pB33.cell 3) ?_
              refine vV (.pointer (some ⟨w.heap.size, 29, none⟩)) ?_
              refine sC (cnCells { d with tmg := true, tsq := d.nxt }) pB33 29 (.int .u32 d.nxt) (cn_size _) ?_
              intro pw34 pt35 pB36
              clear pB33
              replace Z := Z.touch pt35 (by omega)
              replace pB21 := pB21.touch pt35 (by omega)
              replace pL26 := pL26.touch pt35 (by omega)
              replace G := since_touch G pt35 (by omega)
              have pt35_s := pt35.size
              refine vE #[.agg (cnCells c),.int .i64 now,.pointer (some ⟨w.heap.size, 0, none⟩),U,.pointer (some ⟨w.heap.size + 1, 0, none⟩),.slice none 0 0,.slice (some ⟨pb29, 0, none⟩) (n + 1) pc30,.int .i64 lf,.int .i64 mn,.int .i64 sz,.pointer (some ⟨pw3.heap.size, 0, none⟩),U,.slice (some ⟨x0.heap.size, 0, none⟩) 0 0,u13,u14,u15,u16,u17,u18,u19,u20,u21,u22,u23,u24,u25,u26,u27,u28,u29,u30,u31,u32,u33,u34,u35,u36,u37,u38,u39,u40,u41,u42,u43,u44,u45,u46,u47,u48,u49,u50,u51,u52,u53,u54,u55,u56,u57,.bool false,.agg (cnCells d),.agg (sgCells ⟨0, 0, d.mx, d.iN, 16, rm, 0, ByteArray.empty⟩),.pointer (some ⟨w.heap.size, 3, none⟩),.int .u32 d.nxt,.pointer (some ⟨pw3.heap.size, 2, none⟩),.pointer (some ⟨w.heap.size, 8, none⟩),.agg #[.int .u32 d.oF, .string d.oD, .int .i64 d.oR],.pointer (some ⟨w.heap.size, 3, none⟩),.int .u32 d.nxt,.int .i64 sz,.string tk,.pointer (some ⟨pw3.heap.size, 7, none⟩),.int .i64 sz,.int .i64 lf,.bool true,.pointer (some ⟨pw3.heap.size, 4, none⟩),.slice (some ⟨g, 0, none⟩) n cap,.agg (sgCells ⟨0, 0, d.nxt, d.iN, 24, rm, 0, tk⟩),.slice (some ⟨pw19.heap.size, 0, none⟩) 1 1,.slice (some ⟨pb29, 0, none⟩) (n + 1) pc30,.pointer (some ⟨w.heap.size, 28, none⟩),.bool false,.bool true,.bool true,.pointer (some ⟨w.heap.size, 3, none⟩),.int .u32 d.nxt,.pointer (some ⟨w.heap.size, 4, none⟩),.int .u32 d.mx,.bool true,.bool true,.pointer (some ⟨w.heap.size, 28, none⟩),.pointer (some ⟨w.heap.size, 3, none⟩),.int .u32 d.nxt,.pointer (some ⟨w.heap.size, 29, none⟩),u93,u94,u95,u96,u97,u98,U,U,U,U,U,U,U,U,U,U,U,U,U,U,U,U,U,U,U,U,U,U,U,U,U,U,U,U,U,U,U,U,U,U,U,U,U,U,U,U,U,U,U,U,U,U,U,U,U,U,U,U,U,U,U,U,U,U,U,U,U,U,U,U,U,U,U,U,U,U,U,U,U,U,U,U,U,U,U,U,U,U,U,U,U,U,U,U,U,U,U,U,U,U,U,U,U,U,U,U] ?_
              go_upto_region 22 with (fail)
              refine vR ?_
              refine vV (.int .i64 now) ?_
              refine vV (.pointer (some ⟨w.heap.size, 30, none⟩)) ?_
              refine sC (cnCells { d with tmg := true, tsq := d.nxt, tat := now }) pB36 30 (.int .i64 now) (cn_size _) ?_
              intro pw37 pt38 pB39
              clear pB36
              replace Z := Z.touch pt38 (by omega)
              replace pB21 := pB21.touch pt38 (by omega)
              replace pL26 := pL26.touch pt38 (by omega)
              replace G := since_touch G pt38 (by omega)
              have pt38_s := pt38.size
              refine vE #[.agg (cnCells c),.int .i64 now,.pointer (some ⟨w.heap.size, 0, none⟩),U,.pointer (some ⟨w.heap.size + 1, 0, none⟩),.slice none 0 0,.slice (some ⟨pb29, 0, none⟩) (n + 1) pc30,.int .i64 lf,.int .i64 mn,.int .i64 sz,.pointer (some ⟨pw3.heap.size, 0, none⟩),U,.slice (some ⟨x0.heap.size, 0, none⟩) 0 0,u13,u14,u15,u16,u17,u18,u19,u20,u21,u22,u23,u24,u25,u26,u27,u28,u29,u30,u31,u32,u33,u34,u35,u36,u37,u38,u39,u40,u41,u42,u43,u44,u45,u46,u47,u48,u49,u50,u51,u52,u53,u54,u55,u56,u57,.bool false,.agg (cnCells d),.agg (sgCells ⟨0, 0, d.mx, d.iN, 16, rm, 0, ByteArray.empty⟩),.pointer (some ⟨w.heap.size, 3, none⟩),.int .u32 d.nxt,.pointer (some ⟨pw3.heap.size, 2, none⟩),.pointer (some ⟨w.heap.size, 8, none⟩),.agg #[.int .u32 d.oF, .string d.oD, .int .i64 d.oR],.pointer (some ⟨w.heap.size, 3, none⟩),.int .u32 d.nxt,.int .i64 sz,.string tk,.pointer (some ⟨pw3.heap.size, 7, none⟩),.int .i64 sz,.int .i64 lf,.bool true,.pointer (some ⟨pw3.heap.size, 4, none⟩),.slice (some ⟨g, 0, none⟩) n cap,.agg (sgCells ⟨0, 0, d.nxt, d.iN, 24, rm, 0, tk⟩),.slice (some ⟨pw19.heap.size, 0, none⟩) 1 1,.slice (some ⟨pb29, 0, none⟩) (n + 1) pc30,.pointer (some ⟨w.heap.size, 28, none⟩),.bool false,.bool true,.bool true,.pointer (some ⟨w.heap.size, 3, none⟩),.int .u32 d.nxt,.pointer (some ⟨w.heap.size, 4, none⟩),.int .u32 d.mx,.bool true,.bool true,.pointer (some ⟨w.heap.size, 28, none⟩),.pointer (some ⟨w.heap.size, 3, none⟩),.int .u32 d.nxt,.pointer (some ⟨w.heap.size, 29, none⟩),.int .i64 now,.pointer (some ⟨w.heap.size, 30, none⟩),u95,u96,u97,u98,U,U,U,U,U,U,U,U,U,U,U,U,U,U,U,U,U,U,U,U,U,U,U,U,U,U,U,U,U,U,U,U,U,U,U,U,U,U,U,U,U,U,U,U,U,U,U,U,U,U,U,U,U,U,U,U,U,U,U,U,U,U,U,U,U,U,U,U,U,U,U,U,U,U,U,U,U,U,U,U,U,U,U,U,U,U,U,U,U,U,U,U,U,U,U,U,U,U,U,U] ?_
              go_upto_region 23 with (fail)
              refine vR ?_
              refine vB cn_big pB39 (cn_size _) ?_
              refine vV (.int .i64 sz) ?_
              refine vV (.int .i64 now) ?_
              refine vK (hNb ({ d with tmg := true, tsq := d.nxt, tat := now }) sd.w_mx _) ?_
              intro pw40 pg41
              replace pB39 := pB39.since pg41
              replace Z := Z.since pg41
              replace pB21 := pB21.since pg41
              replace pL26 := pL26.since pg41
              replace G := G.trans pg41
              have pg41_s := pg41.size
              refine sB (cnCells (wentC ({ d with tmg := true, tsq := d.nxt, tat := now }) sz now)) cn_big pB39 (cn_size _) (cn_size _) (cn_one _) ?_
              intro pw42 pt43 pB44
              clear pB39
              replace Z := Z.touch pt43 (by omega)
              replace pB21 := pB21.touch pt43 (by omega)
              replace pL26 := pL26.touch pt43 (by omega)
              replace G := since_touch G pt43 (by omega)
              have pt43_s := pt43.size
              refine vE #[.agg (cnCells c),.int .i64 now,.pointer (some ⟨w.heap.size, 0, none⟩),U,.pointer (some ⟨w.heap.size + 1, 0, none⟩),.slice none 0 0,.slice (some ⟨pb29, 0, none⟩) (n + 1) pc30,.int .i64 lf,.int .i64 mn,.int .i64 sz,.pointer (some ⟨pw3.heap.size, 0, none⟩),U,.slice (some ⟨x0.heap.size, 0, none⟩) 0 0,u13,u14,u15,u16,u17,u18,u19,u20,u21,u22,u23,u24,u25,u26,u27,u28,u29,u30,u31,u32,u33,u34,u35,u36,u37,u38,u39,u40,u41,u42,u43,u44,u45,u46,u47,u48,u49,u50,u51,u52,u53,u54,u55,u56,u57,.bool false,.agg (cnCells d),.agg (sgCells ⟨0, 0, d.mx, d.iN, 16, rm, 0, ByteArray.empty⟩),.pointer (some ⟨w.heap.size, 3, none⟩),.int .u32 d.nxt,.pointer (some ⟨pw3.heap.size, 2, none⟩),.pointer (some ⟨w.heap.size, 8, none⟩),.agg #[.int .u32 d.oF, .string d.oD, .int .i64 d.oR],.pointer (some ⟨w.heap.size, 3, none⟩),.int .u32 d.nxt,.int .i64 sz,.string tk,.pointer (some ⟨pw3.heap.size, 7, none⟩),.int .i64 sz,.int .i64 lf,.bool true,.pointer (some ⟨pw3.heap.size, 4, none⟩),.slice (some ⟨g, 0, none⟩) n cap,.agg (sgCells ⟨0, 0, d.nxt, d.iN, 24, rm, 0, tk⟩),.slice (some ⟨pw19.heap.size, 0, none⟩) 1 1,.slice (some ⟨pb29, 0, none⟩) (n + 1) pc30,.pointer (some ⟨w.heap.size, 28, none⟩),.bool false,.bool true,.bool true,.pointer (some ⟨w.heap.size, 3, none⟩),.int .u32 d.nxt,.pointer (some ⟨w.heap.size, 4, none⟩),.int .u32 d.mx,.bool true,.bool true,.pointer (some ⟨w.heap.size, 28, none⟩),.pointer (some ⟨w.heap.size, 3, none⟩),.int .u32 d.nxt,.pointer (some ⟨w.heap.size, 29, none⟩),.int .i64 now,.pointer (some ⟨w.heap.size, 30, none⟩),.agg (cnCells { d with tmg := true, tsq := d.nxt, tat := now }),.int .i64 sz,.int .i64 now,.agg (cnCells (wentC ({ d with tmg := true, tsq := d.nxt, tat := now }) sz now)),U,U,U,U,U,U,U,U,U,U,U,U,U,U,U,U,U,U,U,U,U,U,U,U,U,U,U,U,U,U,U,U,U,U,U,U,U,U,U,U,U,U,U,U,U,U,U,U,U,U,U,U,U,U,U,U,U,U,U,U,U,U,U,U,U,U,U,U,U,U,U,U,U,U,U,U,U,U,U,U,U,U,U,U,U,U,U,U,U,U,U,U,U,U,U,U,U,U,U,U] ?_
              have hte : timesC d now = { d with tmg := true, tsq := d.nxt, tat := now } := by unfold timesC timesB; rw [htg.out, decide_eq_true hnm.out]; rfl
              have hk2 : KeepsS c ps now (oneC d now) (n + 1) (xs ++ [pieceSg d ps]) := keeps_one hKp.out (by rw [← hlf.out, ← hsz.out]; exact hol1.2) (by unfold goesB; rw [← hsb.out, ← hsp.out]; rfl) (by rw [← hlf.out, ← hsz.out]; exact hol.out) now
              have hone : wentC ({ d with tmg := true, tsq := d.nxt, tat := now }) sz now = oneC d now := by unfold oneC; rw [hte, ← hsz.out]
              rw [hone] at pB44
              have hxs : Held shG pw42 w.heap.size pb29 (n + 1) pc30 (xs ++ [pieceSg d ps]) := by
                have := pL26
                unfold pieceSg
                rw [← hrm.out, ← hsz.out, ← hlf.out, ← htk.out, hfl.out]
                exact this
              go_roundw
              case rel =>
                (repeat apply Exists.intro)
                exact ⟨⟨oneC d now, _, _, _, _, rfl, pB44, Z, hxs, G, by omega, hk2⟩, rfl⟩
              case measure =>
                have m1 : pw42.cell? ⟨w.heap.size, 3, none⟩ = some (.int .u32 (oneC d now).nxt) := pB44.cell 3
                rw [m1, hA0.out]
                exact meas sd hk2.1 (by rw [← hlf.out, ← hsz.out]; exact hol.out)
  case rest =>
    clear A Z qL2 G
    obtain ⟨d, g, n, cap, xs, rfl, A, Z, L, G, hg2, hnb, sd0, hpx⟩ := hcut
    have ha : Hid (SV = owe2 ps (prbC (fin2 ps now (d, xs)).1 now, (fin2 ps now (d, xs)).2)) := by
      show SV = _
      rw [hSV.out]
      unfold sendV
      rw [← hpx.out]
    refine ‹∀ (a : Act) (w : World), Code.wp Tryz.prog _ _ a w → _› _ _ ?_
    exact Eq.mp (by kernel_rfl) (tail24 c d ps now SV w wc g n cap xs u7 u8 u9 u10 (.slice (some ⟨x0.heap.size, 0, none⟩) 0 0) u13 u14 u15 u16 u17 u18 u19 u20 u21 u22 u23 u24 u25 u26 u27 u28 u29 u30 u31 u32 u33 u34 u35 u36 u37 u38 u39 u40 u41 u42 u43 u44 u45 u46 u47 u48 u49 u50 u51 u52 u53 u54 u55 u56 u57 u58 u59 u60 u61 u62 u63 u64 u65 u66 u67 u68 u69 u70 u71 u72 u73 u74 u75 u76 u77 u78 u79 u80 u81 u82 u83 u84 u85 u86 u87 u88 u89 u90 u91 u92 u93 u94 u95 u96 u97 u98 ms h0 h1 R A Z L G hg2 hnb sd0.stay ha)
end Go.Proofs.YtfenlfijfjcdbaaGreat
