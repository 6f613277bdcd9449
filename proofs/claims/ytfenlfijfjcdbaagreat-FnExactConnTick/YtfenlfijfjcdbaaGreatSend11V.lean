/-
  What an end sends behind its pieces, as spec does it, from an earlier point on.
-/
import Derived.Test.YtfenlfijfjcdbaaGreatM18
import Derived.Test.YtfenlfijfjcdbaaGreatM7
import Derived.Test.YtfenlfijfjcdbaaGreatM21
import Derived.Deep.DeepCutAuto
namespace Go.Proofs.YtfenlfijfjcdbaaGreat
open Go.ChangeShapes Go.WideShapes Go.ChangeAt Go.RowKit
set_option linter.unusedVariables false
set_option maxRecDepth 10000

set_option maxRecDepth 20000 in
set_option maxHeartbeats 16000000 in
theorem tail24 (c d : Cn) (ps : List (Int × ByteArray)) (now : Int) (SV : Cn × List Sg) (w x1 : World) (g n cap : Nat) (xs : List Sg) (u7 u8 u9 u10 u12 u13 u14 u15 u16 u17 u18 u19 u20 u21 u22 u23 u24 u25 u26 u27 u28 u29 u30 u31 u32 u33 u34 u35 u36 u37 u38 u39 u40 u41 u42 u43 u44 u45 u46 u47 u48 u49 u50 u51 u52 u53 u54 u55 u56 u57 u58 u59 u60 u61 u62 u63 u64 u65 u66 u67 u68 u69 u70 u71 u72 u73 u74 u75 u76 u77 u78 u79 u80 u81 u82 u83 u84 u85 u86 u87 u88 u89 u90 u91 u92 u93 u94 u95 u96 u97 u98 : Value) (ms : MayS c ps) (h0 : 0 ≤ now) (h1 : now ≤ 1000000000) (R : Rd shP w c.pa c.pn ps) (A : Blk w.heap.size x1 (cnCells d)) (Z : Blk (w.heap.size + 1) x1 (cnCells cnZero)) (L : Held shG x1 w.heap.size g n cap xs) (G : Since w x1) (hg2 : w.heap.size + 1 < g) (hnb : (n : Int) ≤ 100000) (sd : Stay c d) (hall : Hid (SV = owe2 ps (prbC (fin2 ps now (d, xs)).1 now, (fin2 ps now (d, xs)).2))) :
    Code.wp Tryz.prog (tailOf 3 (Tryz.f29.body.getD .skip)) (bodyPost Tryz.prog Tryz.f29 (fun e w' => ∃ g n cap, e = .returned (.tuple #[.agg (cnCells SV.1), .slice (some ⟨g, 0, none⟩) n cap]) ∧ Held shG w' w.heap.size g n cap SV.2 ∧ Since w w')) { tmps := #[.agg (cnCells c), .int .i64 now, .pointer (some ⟨w.heap.size, 0, none⟩), undef, .pointer (some ⟨w.heap.size + 1, 0, none⟩), .slice none 0 0, .slice (some ⟨g, 0, none⟩) n cap, u7, u8, u9, u10, undef, u12, u13, u14, u15, u16, u17, u18, u19, u20, u21, u22, u23, u24, u25, u26, u27, u28, u29, u30, u31, u32, u33, u34, u35, u36, u37, u38, u39, u40, u41, u42, u43, u44, u45, u46, u47, u48, u49, u50, u51, u52, u53, u54, u55, u56, u57, u58, u59, u60, u61, u62, u63, u64, u65, u66, u67, u68, u69, u70, u71, u72, u73, u74, u75, u76, u77, u78, u79, u80, u81, u82, u83, u84, u85, u86, u87, u88, u89, u90, u91, u92, u93, u94, u95, u96, u97, u98, undef, undef, undef, undef, undef, undef, undef, undef, undef, undef, undef, undef, undef, undef, undef, undef, undef, undef, undef, undef, undef, undef, undef, undef, undef, undef, undef, undef, undef, undef, undef, undef, undef, undef, undef, undef, undef, undef, undef, undef, undef, undef, undef, undef, undef, undef, undef, undef, undef, undef, undef, undef, undef, undef, undef, undef, undef, undef, undef, undef, undef, undef, undef, undef, undef, undef, undef, undef, undef, undef, undef, undef, undef, undef, undef, undef, undef, undef, undef, undef, undef, undef, undef, undef, undef, undef, undef, undef, undef, undef, undef, undef, undef, undef, undef, undef, undef, undef, undef, undef], defers := [] } x1 := by
    conv => arg 2; whnf
    conv => arg 4; zeta
    have hZ2 := Z.lt
    have hL2 := L.lt
    have hG2 := G.size
    have hd_od : d.oD.size ≤ 1048576 := by rw [sd.oD]; exact ms.hod
    have hd_gd : Good d.iN d.iD d.iR d.pn ps := by rw [sd.iN, sd.iD, sd.iR, sd.pn]; exact ms.gd
    have hd_R : Rd shP w d.pa d.pn ps := by rw [sd.pa, sd.pn]; exact R
    obtain ⟨sb, hsb⟩ : ∃ q, Hid (q = sendsB d.st) := ⟨_, rfl⟩
    have hS := fun wx => specSends d.st wx
    rw [← hsb.out] at hS
    obtain ⟨lf, hlf⟩ : ∃ q, Hid (q = leftC d) := ⟨_, rfl⟩
    have hLf := fun wx => specLeft d sd.w_nxt hd_od wx
    rw [← hlf.out] at hLf
    go_upto_region 24 with (fail)
    obtain ⟨fb, hfb⟩ : ∃ q, Hid (q = finB d) := ⟨_, rfl⟩
    have hff := hfb.out
    unfold finB at hff
    rw [← hsb.out, ← hlf.out] at hff
    replace hff : Hid _ := hff
    go_cut [122] (fun v wx => v = .bool fb ∧ Blk w.heap.size wx (cnCells d) ∧ Blk (w.heap.size + 1) wx (cnCells cnZero) ∧ Held shG wx w.heap.size g n cap xs ∧ Since w wx)
    case first =>
      cases sb
      case false =>
        refine vR ?_
        refine vV (.pointer (some ⟨w.heap.size, 0, none⟩)) ?_
        refine vD (.int .i64 d.st) (A.cell 0) ?_
        refine vC (hS _) ?_
        rintro _ _ ⟨rfl, rfl⟩
        refine ⟨_, rfl, ?_⟩
        refine vV (.bool false) ?_
        refine vS ?_
        refine vS ?_
        refine vV (.bool false) ?_
        refine vV (.bool false) ?_
        refine vS ?_
        refine vS ?_
        refine vS ?_
        refine vV (.bool false) ?_
        refine vV (.bool false) ?_
        refine vS ?_
        refine vS ?_
        refine vS ?_
        refine vS ?_
        refine vS ?_
        refine vS ?_
        refine vS ?_
        refine vS ?_
        refine vS ?_
        refine vS ?_
        refine vV (.bool false) ?_
        refine vE #[.agg (cnCells c),.int .i64 now,.pointer (some ⟨w.heap.size, 0, none⟩),U,.pointer (some ⟨w.heap.size + 1, 0, none⟩),.slice none 0 0,.slice (some ⟨g, 0, none⟩) n cap,u7,u8,u9,u10,U,u12,u13,u14,u15,u16,u17,u18,u19,u20,u21,u22,u23,u24,u25,u26,u27,u28,u29,u30,u31,u32,u33,u34,u35,u36,u37,u38,u39,u40,u41,u42,u43,u44,u45,u46,u47,u48,u49,u50,u51,u52,u53,u54,u55,u56,u57,u58,u59,u60,u61,u62,u63,u64,u65,u66,u67,u68,u69,u70,u71,u72,u73,u74,u75,u76,u77,u78,u79,u80,u81,u82,u83,u84,u85,u86,u87,u88,u89,u90,u91,u92,u93,u94,u95,u96,u97,u98,.pointer (some ⟨w.heap.size, 0, none⟩),.int .i64 d.st,.bool false,.bool false,U,U,.bool false,.bool false,U,U,U,.bool false,.bool false,U,U,U,U,U,U,U,U,U,U,.bool false,U,U,U,U,U,U,U,U,U,U,U,U,U,U,U,U,U,U,U,U,U,U,U,U,U,U,U,U,U,U,U,U,U,U,U,U,U,U,U,U,U,U,U,U,U,U,U,U,U,U,U,U,U,U,U,U,U,U,U,U,U,U,U,U,U,U,U,U,U,U,U,U,U,U,U,U] ?_
        have e9 : Hid (fb = false) := hff.out.trans rfl
        go_wp2_with (fail)
        go_meet
        case rel => exact ⟨by rw [e9.out], A, Z, L, G⟩
      case true =>
      rcases Bool.eq_false_or_eq_true d.fin with hfi | hfi
      all_goals replace hfi : Hid _ := hfi
      case inr =>
        refine vR ?_
        refine vV (.pointer (some ⟨w.heap.size, 0, none⟩)) ?_
        refine vD (.int .i64 d.st) (A.cell 0) ?_
        refine vC (hS _) ?_
        rintro _ _ ⟨rfl, rfl⟩
        refine ⟨_, rfl, ?_⟩
        refine vV (.bool true) ?_
        refine vV (.pointer (some ⟨w.heap.size, 15, none⟩)) ?_
        refine vD (.bool false) ((A.cell 15).trans (by show some (.bool d.fin : Value) = some (.bool false : Value); rw [hfi.out])) ?_
        refine vV (.bool false) ?_
        refine vV (.bool false) ?_
        refine vS ?_
        refine vS ?_
        refine vS ?_
        refine vV (.bool false) ?_
        refine vV (.bool false) ?_
        refine vS ?_
        refine vS ?_
        refine vS ?_
        refine vS ?_
        refine vS ?_
        refine vS ?_
        refine vS ?_
        refine vS ?_
        refine vS ?_
        refine vS ?_
        refine vV (.bool false) ?_
        refine vE #[.agg (cnCells c),.int .i64 now,.pointer (some ⟨w.heap.size, 0, none⟩),U,.pointer (some ⟨w.heap.size + 1, 0, none⟩),.slice none 0 0,.slice (some ⟨g, 0, none⟩) n cap,u7,u8,u9,u10,U,u12,u13,u14,u15,u16,u17,u18,u19,u20,u21,u22,u23,u24,u25,u26,u27,u28,u29,u30,u31,u32,u33,u34,u35,u36,u37,u38,u39,u40,u41,u42,u43,u44,u45,u46,u47,u48,u49,u50,u51,u52,u53,u54,u55,u56,u57,u58,u59,u60,u61,u62,u63,u64,u65,u66,u67,u68,u69,u70,u71,u72,u73,u74,u75,u76,u77,u78,u79,u80,u81,u82,u83,u84,u85,u86,u87,u88,u89,u90,u91,u92,u93,u94,u95,u96,u97,u98,.pointer (some ⟨w.heap.size, 0, none⟩),.int .i64 d.st,.bool true,.bool true,.pointer (some ⟨w.heap.size, 15, none⟩),.bool false,.bool false,.bool false,U,U,U,.bool false,.bool false,U,U,U,U,U,U,U,U,U,U,.bool false,U,U,U,U,U,U,U,U,U,U,U,U,U,U,U,U,U,U,U,U,U,U,U,U,U,U,U,U,U,U,U,U,U,U,U,U,U,U,U,U,U,U,U,U,U,U,U,U,U,U,U,U,U,U,U,U,U,U,U,U,U,U,U,U,U,U,U,U,U,U,U,U,U,U,U,U] ?_
        have e9 : Hid (fb = false) := hff.out.trans (by rw [hfi.out]; rfl)
        go_wp2_with (fail)
        go_meet
        case rel => exact ⟨by rw [e9.out], A, Z, L, G⟩
      case inl =>
      by_cases hl0 : lf = 0
      case neg =>
        have hq0 : Hid ((lf == 0) = false) := by show (lf == 0) = false; simpa using hl0
        replace hl0 : Hid _ := hl0
        refine vR ?_
        refine vV (.pointer (some ⟨w.heap.size, 0, none⟩)) ?_
        refine vD (.int .i64 d.st) (A.cell 0) ?_
        refine vC (hS _) ?_
        rintro _ _ ⟨rfl, rfl⟩
        refine ⟨_, rfl, ?_⟩
        refine vV (.bool true) ?_
        refine vV (.pointer (some ⟨w.heap.size, 15, none⟩)) ?_
        refine vD (.bool true) ((A.cell 15).trans (by show some (.bool d.fin : Value) = some (.bool true : Value); rw [hfi.out])) ?_
        refine vV (.bool true) ?_
        refine vV (.bool true) ?_
        refine vB cn_big A (cn_size _) ?_
        refine vK (hLf _) ?_
        intro zw1 zg2
        replace A := A.since zg2
        replace Z := Z.since zg2
        replace L := L.since zg2
        replace G := G.trans zg2
        have zg2_s := zg2.size
        refine vV (.bool false) ?_ (hrun := by rw [show false = (lf == 0) from hq0.out.symm]; kernel_rfl)
        refine vV (.bool false) ?_
        refine vV (.bool false) ?_
        refine vS ?_
        refine vS ?_
        refine vS ?_
        refine vS ?_
        refine vS ?_
        refine vS ?_
        refine vS ?_
        refine vS ?_
        refine vS ?_
        refine vS ?_
        refine vV (.bool false) ?_
        refine vE #[.agg (cnCells c),.int .i64 now,.pointer (some ⟨w.heap.size, 0, none⟩),U,.pointer (some ⟨w.heap.size + 1, 0, none⟩),.slice none 0 0,.slice (some ⟨g, 0, none⟩) n cap,u7,u8,u9,u10,U,u12,u13,u14,u15,u16,u17,u18,u19,u20,u21,u22,u23,u24,u25,u26,u27,u28,u29,u30,u31,u32,u33,u34,u35,u36,u37,u38,u39,u40,u41,u42,u43,u44,u45,u46,u47,u48,u49,u50,u51,u52,u53,u54,u55,u56,u57,u58,u59,u60,u61,u62,u63,u64,u65,u66,u67,u68,u69,u70,u71,u72,u73,u74,u75,u76,u77,u78,u79,u80,u81,u82,u83,u84,u85,u86,u87,u88,u89,u90,u91,u92,u93,u94,u95,u96,u97,u98,.pointer (some ⟨w.heap.size, 0, none⟩),.int .i64 d.st,.bool true,.bool true,.pointer (some ⟨w.heap.size, 15, none⟩),.bool true,.bool true,.bool true,.agg (cnCells d),.int .i64 lf,.bool false,.bool false,.bool false,U,U,U,U,U,U,U,U,U,U,.bool false,U,U,U,U,U,U,U,U,U,U,U,U,U,U,U,U,U,U,U,U,U,U,U,U,U,U,U,U,U,U,U,U,U,U,U,U,U,U,U,U,U,U,U,U,U,U,U,U,U,U,U,U,U,U,U,U,U,U,U,U,U,U,U,U,U,U,U,U,U,U,U,U,U,U,U,U] ?_
        have e9 : Hid (fb = false) := hff.out.trans (by rw [decide_eq_false hl0.out, hfi.out]; rfl)
        go_wp2_with (fail)
        go_meet
        case rel => exact ⟨by rw [e9.out], A, Z, L, G⟩
      case pos =>
      replace hl0 : Hid _ := hl0
      have hq0 : Hid ((lf == 0) = true) := by show (lf == 0) = true; simpa using hl0.out
      rcases Bool.eq_false_or_eq_true d.fsn with hfs | hfs
      all_goals replace hfs : Hid _ := hfs
      case inr =>
        refine vR ?_
        refine vV (.pointer (some ⟨w.heap.size, 0, none⟩)) ?_
        refine vD (.int .i64 d.st) (A.cell 0) ?_
        refine vC (hS _) ?_
        rintro _ _ ⟨rfl, rfl⟩
        refine ⟨_, rfl, ?_⟩
        refine vV (.bool true) ?_
        refine vV (.pointer (some ⟨w.heap.size, 15, none⟩)) ?_
        refine vD (.bool true) ((A.cell 15).trans (by show some (.bool d.fin : Value) = some (.bool true : Value); rw [hfi.out])) ?_
        refine vV (.bool true) ?_
        refine vV (.bool true) ?_
        refine vB cn_big A (cn_size _) ?_
        refine vK (hLf _) ?_
        intro zw1 zg2
        replace A := A.since zg2
        replace Z := Z.since zg2
        replace L := L.since zg2
        replace G := G.trans zg2
        have zg2_s := zg2.size
        refine vV (.bool true) ?_ (hrun := by rw [show true = (lf == 0) from hq0.out.symm]; kernel_rfl)
        refine vV (.bool true) ?_
        refine vV (.bool true) ?_
        refine vV (.pointer (some ⟨w.heap.size, 16, none⟩)) ?_
        refine vD (.bool false) ((A.cell 16).trans (by show some (.bool d.fsn : Value) = some (.bool false : Value); rw [hfs.out])) ?_
        refine vV (.bool true) ?_
        refine vV (.bool true) ?_
        refine vS ?_
        refine vS ?_
        refine vS ?_
        refine vS ?_
        refine vS ?_
        refine vV (.bool true) ?_
        refine vV (.bool true) ?_
        refine vE #[.agg (cnCells c),.int .i64 now,.pointer (some ⟨w.heap.size, 0, none⟩),U,.pointer (some ⟨w.heap.size + 1, 0, none⟩),.slice none 0 0,.slice (some ⟨g, 0, none⟩) n cap,u7,u8,u9,u10,U,u12,u13,u14,u15,u16,u17,u18,u19,u20,u21,u22,u23,u24,u25,u26,u27,u28,u29,u30,u31,u32,u33,u34,u35,u36,u37,u38,u39,u40,u41,u42,u43,u44,u45,u46,u47,u48,u49,u50,u51,u52,u53,u54,u55,u56,u57,u58,u59,u60,u61,u62,u63,u64,u65,u66,u67,u68,u69,u70,u71,u72,u73,u74,u75,u76,u77,u78,u79,u80,u81,u82,u83,u84,u85,u86,u87,u88,u89,u90,u91,u92,u93,u94,u95,u96,u97,u98,.pointer (some ⟨w.heap.size, 0, none⟩),.int .i64 d.st,.bool true,.bool true,.pointer (some ⟨w.heap.size, 15, none⟩),.bool true,.bool true,.bool true,.agg (cnCells d),.int .i64 lf,.bool true,.bool true,.bool true,.pointer (some ⟨w.heap.size, 16, none⟩),.bool false,.bool true,.bool true,U,U,U,U,U,.bool true,.bool true,U,U,U,U,U,U,U,U,U,U,U,U,U,U,U,U,U,U,U,U,U,U,U,U,U,U,U,U,U,U,U,U,U,U,U,U,U,U,U,U,U,U,U,U,U,U,U,U,U,U,U,U,U,U,U,U,U,U,U,U,U,U,U,U,U,U,U,U,U,U,U,U,U,U,U,U] ?_
        have e9 : Hid (fb = true) := hff.out.trans (by rw [decide_eq_true hl0.out, hfi.out, hfs.out]; rfl)
        go_wp2_with (fail)
        go_meet
        case rel => exact ⟨by rw [e9.out], A, Z, L, G⟩
      case inl =>
      by_cases hnq : d.nxt = d.fsq
      case pos =>
        have hq1 : Hid ((d.nxt == d.fsq) = true) := by show (d.nxt == d.fsq) = true; simpa using hnq
        replace hnq : Hid _ := hnq
        refine vR ?_
        refine vV (.pointer (some ⟨w.heap.size, 0, none⟩)) ?_
        refine vD (.int .i64 d.st) (A.cell 0) ?_
        refine vC (hS _) ?_
        rintro _ _ ⟨rfl, rfl⟩
        refine ⟨_, rfl, ?_⟩
        refine vV (.bool true) ?_
        refine vV (.pointer (some ⟨w.heap.size, 15, none⟩)) ?_
        refine vD (.bool true) ((A.cell 15).trans (by show some (.bool d.fin : Value) = some (.bool true : Value); rw [hfi.out])) ?_
        refine vV (.bool true) ?_
        refine vV (.bool true) ?_
        refine vB cn_big A (cn_size _) ?_
        refine vK (hLf _) ?_
        intro zw1 zg2
        replace A := A.since zg2
        replace Z := Z.since zg2
        replace L := L.since zg2
        replace G := G.trans zg2
        have zg2_s := zg2.size
        refine vV (.bool true) ?_ (hrun := by rw [show true = (lf == 0) from hq0.out.symm]; kernel_rfl)
        refine vV (.bool true) ?_
        refine vV (.bool true) ?_
        refine vV (.pointer (some ⟨w.heap.size, 16, none⟩)) ?_
        refine vD (.bool true) ((A.cell 16).trans (by show some (.bool d.fsn : Value) = some (.bool true : Value); rw [hfs.out])) ?_
        refine vV (.bool false) ?_
        refine vV (.bool false) ?_
        refine vV (.pointer (some ⟨w.heap.size, 3, none⟩)) ?_
        refine vD (.int .u32 d.nxt) (A.cell 3) ?_
        refine vV (.pointer (some ⟨w.heap.size, 17, none⟩)) ?_
        refine vD (.int .u32 d.fsq) (A.cell 17) ?_
        refine vV (.bool true) ?_ (hrun := by rw [show true = (d.nxt == d.fsq) from hq1.out.symm]; kernel_rfl)
        refine vV (.bool true) ?_
        refine vV (.bool true) ?_
        refine vE #[.agg (cnCells c),.int .i64 now,.pointer (some ⟨w.heap.size, 0, none⟩),U,.pointer (some ⟨w.heap.size + 1, 0, none⟩),.slice none 0 0,.slice (some ⟨g, 0, none⟩) n cap,u7,u8,u9,u10,U,u12,u13,u14,u15,u16,u17,u18,u19,u20,u21,u22,u23,u24,u25,u26,u27,u28,u29,u30,u31,u32,u33,u34,u35,u36,u37,u38,u39,u40,u41,u42,u43,u44,u45,u46,u47,u48,u49,u50,u51,u52,u53,u54,u55,u56,u57,u58,u59,u60,u61,u62,u63,u64,u65,u66,u67,u68,u69,u70,u71,u72,u73,u74,u75,u76,u77,u78,u79,u80,u81,u82,u83,u84,u85,u86,u87,u88,u89,u90,u91,u92,u93,u94,u95,u96,u97,u98,.pointer (some ⟨w.heap.size, 0, none⟩),.int .i64 d.st,.bool true,.bool true,.pointer (some ⟨w.heap.size, 15, none⟩),.bool true,.bool true,.bool true,.agg (cnCells d),.int .i64 lf,.bool true,.bool true,.bool true,.pointer (some ⟨w.heap.size, 16, none⟩),.bool true,.bool false,.bool false,.pointer (some ⟨w.heap.size, 3, none⟩),.int .u32 d.nxt,.pointer (some ⟨w.heap.size, 17, none⟩),.int .u32 d.fsq,.bool true,.bool true,.bool true,U,U,U,U,U,U,U,U,U,U,U,U,U,U,U,U,U,U,U,U,U,U,U,U,U,U,U,U,U,U,U,U,U,U,U,U,U,U,U,U,U,U,U,U,U,U,U,U,U,U,U,U,U,U,U,U,U,U,U,U,U,U,U,U,U,U,U,U,U,U,U,U,U,U,U,U] ?_
        have e9 : Hid (fb = true) := hff.out.trans (by rw [decide_eq_true hl0.out, hfi.out, hfs.out]; rw [decide_eq_true hnq.out]; rfl)
        go_wp2_with (fail)
        go_meet
        case rel => exact ⟨by rw [e9.out], A, Z, L, G⟩
      case neg =>
        have hq1 : Hid ((d.nxt == d.fsq) = false) := by show (d.nxt == d.fsq) = false; simpa using hnq
        replace hnq : Hid _ := hnq
        refine vR ?_
        refine vV (.pointer (some ⟨w.heap.size, 0, none⟩)) ?_
        refine vD (.int .i64 d.st) (A.cell 0) ?_
        refine vC (hS _) ?_
        rintro _ _ ⟨rfl, rfl⟩
        refine ⟨_, rfl, ?_⟩
        refine vV (.bool true) ?_
        refine vV (.pointer (some ⟨w.heap.size, 15, none⟩)) ?_
        refine vD (.bool true) ((A.cell 15).trans (by show some (.bool d.fin : Value) = some (.bool true : Value); rw [hfi.out])) ?_
        refine vV (.bool true) ?_
        refine vV (.bool true) ?_
        refine vB cn_big A (cn_size _) ?_
        refine vK (hLf _) ?_
        intro zw1 zg2
        replace A := A.since zg2
        replace Z := Z.since zg2
        replace L := L.since zg2
        replace G := G.trans zg2
        have zg2_s := zg2.size
        refine vV (.bool true) ?_ (hrun := by rw [show true = (lf == 0) from hq0.out.symm]; kernel_rfl)
        refine vV (.bool true) ?_
        refine vV (.bool true) ?_
        refine vV (.pointer (some ⟨w.heap.size, 16, none⟩)) ?_
        refine vD (.bool true) ((A.cell 16).trans (by show some (.bool d.fsn : Value) = some (.bool true : Value); rw [hfs.out])) ?_
        refine vV (.bool false) ?_
        refine vV (.bool false) ?_
        refine vV (.pointer (some ⟨w.heap.size, 3, none⟩)) ?_
        refine vD (.int .u32 d.nxt) (A.cell 3) ?_
        refine vV (.pointer (some ⟨w.heap.size, 17, none⟩)) ?_
        refine vD (.int .u32 d.fsq) (A.cell 17) ?_
        refine vV (.bool false) ?_ (hrun := by rw [show false = (d.nxt == d.fsq) from hq1.out.symm]; kernel_rfl)
        refine vV (.bool false) ?_
        refine vV (.bool false) ?_
        refine vE #[.agg (cnCells c),.int .i64 now,.pointer (some ⟨w.heap.size, 0, none⟩),U,.pointer (some ⟨w.heap.size + 1, 0, none⟩),.slice none 0 0,.slice (some ⟨g, 0, none⟩) n cap,u7,u8,u9,u10,U,u12,u13,u14,u15,u16,u17,u18,u19,u20,u21,u22,u23,u24,u25,u26,u27,u28,u29,u30,u31,u32,u33,u34,u35,u36,u37,u38,u39,u40,u41,u42,u43,u44,u45,u46,u47,u48,u49,u50,u51,u52,u53,u54,u55,u56,u57,u58,u59,u60,u61,u62,u63,u64,u65,u66,u67,u68,u69,u70,u71,u72,u73,u74,u75,u76,u77,u78,u79,u80,u81,u82,u83,u84,u85,u86,u87,u88,u89,u90,u91,u92,u93,u94,u95,u96,u97,u98,.pointer (some ⟨w.heap.size, 0, none⟩),.int .i64 d.st,.bool true,.bool true,.pointer (some ⟨w.heap.size, 15, none⟩),.bool true,.bool true,.bool true,.agg (cnCells d),.int .i64 lf,.bool true,.bool true,.bool true,.pointer (some ⟨w.heap.size, 16, none⟩),.bool true,.bool false,.bool false,.pointer (some ⟨w.heap.size, 3, none⟩),.int .u32 d.nxt,.pointer (some ⟨w.heap.size, 17, none⟩),.int .u32 d.fsq,.bool false,.bool false,.bool false,U,U,U,U,U,U,U,U,U,U,U,U,U,U,U,U,U,U,U,U,U,U,U,U,U,U,U,U,U,U,U,U,U,U,U,U,U,U,U,U,U,U,U,U,U,U,U,U,U,U,U,U,U,U,U,U,U,U,U,U,U,U,U,U,U,U,U,U,U,U,U,U,U,U,U,U] ?_
        have e9 : Hid (fb = false) := hff.out.trans (by rw [decide_eq_true hl0.out, hfi.out, hfs.out]; rw [decide_eq_false hnq.out]; rfl)
        go_wp2_with (fail)
        go_meet
        case rel => exact ⟨by rw [e9.out], A, Z, L, G⟩
    case rest =>
    clear A Z L G
    obtain ⟨rfl, A, Z, L, G⟩ := hcut
    generalize wc = x2 at A Z L G ⊢
    have hZ_x2 := Z.lt
    have hL_x2 := L.lt
    have hG_x2 := G.size
    go_upto_if 122 with (fail)
    go_cut [6] (fun ov wx => ∃ (e : Cn) (ge ne ce : Nat) (ye : List Sg), ov = .slice (some ⟨ge, 0, none⟩) ne ce ∧ Blk w.heap.size wx (cnCells e) ∧ Blk (w.heap.size + 1) wx (cnCells cnZero) ∧ Held shG wx w.heap.size ge ne ce ye ∧ Since w wx ∧ w.heap.size + 1 < ge ∧ Stay c e ∧ ne ≤ n + 1 ∧ Hid ((e, ye) = fin2 ps now (d, xs)))
    case first =>
      cases fb
      case false =>
        go_wp2_with (fail)
        go_meet
        case rel => exact ⟨d, g, n, cap, xs, rfl, A, Z, L, G, hg2, sd, by omega, (by show _ = _; unfold fin2; rw [← hfb.out]; rfl)⟩
      case true =>
        obtain ⟨rm, hrm⟩ : ∃ q, Hid (q = inRoomN d.iN d.iD d.iR ps) := ⟨_, rfl⟩
        have hAk := fun wx Rx => specAckSg d ps hd_gd wx Rx
        unfold ackSg at hAk
        rw [← hrm.out] at hAk
        have hWn := fun wx => specWent { d with fsn := true, fsq := d.nxt } 1 now sd.w_mx h0 h1 wx
        go_upto_region 25 with (fail)
        refine vR ?_
        refine vB cn_big A (cn_size _) ?_
        refine vK (hAk _ (hd_R.since G)) ?_
        intro yw1 yg2
        replace A := A.since yg2
        replace Z := Z.since yg2
        replace L := L.since yg2
        replace G := G.trans yg2
        have yg2_s := yg2.size
        refine vW (yw1.alloc (.cells (sgCells sgZero) 61)) (.pointer (some ⟨yw1.heap.size, 0, none⟩)) ?_
        have yB4 := Blk.new yw1 (sgCells sgZero) 61
        have yg5 := (Since.refl yw1).alloc (.cells (sgCells sgZero) 61)
        replace A := A.since yg5
        replace Z := Z.since yg5
        replace L := L.since yg5
        replace G := G.trans yg5
        generalize yw1.alloc (.cells (sgCells sgZero) 61) = yw3 at A Z L G yB4 yg5 ⊢
        have yB4_l := yB4.lt
        have yg5_s := yg5.size
        refine sB (sgCells ⟨0, 0, d.mx, d.iN, 16, rm, 0, ByteArray.empty⟩) seg_big yB4 rfl rfl (seg_one _ _ _ _ _ _ _ _) ?_
        intro yw6 yt7 yB8
        clear yB4
        replace A := A.touch yt7 (by omega)
        replace Z := Z.touch yt7 (by omega)
        replace L := L.touch yt7 (by omega)
        replace G := since_touch G yt7 (by omega)
        have yt7_s := yt7.size
        refine vE #[.agg (cnCells c),.int .i64 now,.pointer (some ⟨w.heap.size, 0, none⟩),U,.pointer (some ⟨w.heap.size + 1, 0, none⟩),.slice none 0 0,.slice (some ⟨g, 0, none⟩) n cap,u7,u8,u9,u10,.pointer (some ⟨yw1.heap.size, 0, none⟩),u12,u13,u14,u15,u16,u17,u18,u19,u20,u21,u22,u23,u24,u25,u26,u27,u28,u29,u30,u31,u32,u33,u34,u35,u36,u37,u38,u39,u40,u41,u42,u43,u44,u45,u46,u47,u48,u49,u50,u51,u52,u53,u54,u55,u56,u57,u58,u59,u60,u61,u62,u63,u64,u65,u66,u67,u68,u69,u70,u71,u72,u73,u74,u75,u76,u77,u78,u79,u80,u81,u82,u83,u84,u85,u86,u87,u88,u89,u90,u91,u92,u93,u94,u95,u96,u97,u98,u99,u100,u101,u102,u103,u104,u105,u106,u107,u108,u109,u110,u111,u112,u113,u114,u115,u116,u117,u118,u119,u120,u121,.bool true,.agg (cnCells d),.agg (sgCells ⟨0, 0, d.mx, d.iN, 16, rm, 0, ByteArray.empty⟩),u125,u126,u127,u128,u129,u130,u131,u132,u133,u134,u135,u136,u137,u138,u139,u140,U,U,u143,u144,U,u146,u147,u148,u149,u150,u151,u152,u153,u154,u155,u156,u157,u158,u159,u160,u161,u162,u163,u164,u165,u166,u167,u168,u169,u170,u171,u172,u173,u174,u175,u176,u177,u178,u179,u180,u181,u182,u183,u184,u185,u186,u187,u188,u189,u190,u191,u192,u193,u194,u195,u196,u197,u198] ?_
        go_upto_region 26 with (fail)
        refine vR ?_
        refine vV (.pointer (some ⟨w.heap.size, 3, none⟩)) ?_
        refine vD (.int .u32 d.nxt) (A.cell 3) ?_
        refine vV (.pointer (some ⟨yw1.heap.size, 2, none⟩)) ?_
        refine sC (sgCells ⟨0, 0, d.nxt, d.iN, 16, rm, 0, ByteArray.empty⟩) yB8 2 (.int .u32 d.nxt) rfl ?_
        intro yw9 yt10 yB11
        clear yB8
        replace A := A.touch yt10 (by omega)
        replace Z := Z.touch yt10 (by omega)
        replace L := L.touch yt10 (by omega)
        replace G := since_touch G yt10 (by omega)
        have yt10_s := yt10.size
        refine vE #[.agg (cnCells c),.int .i64 now,.pointer (some ⟨w.heap.size, 0, none⟩),U,.pointer (some ⟨w.heap.size + 1, 0, none⟩),.slice none 0 0,.slice (some ⟨g, 0, none⟩) n cap,u7,u8,u9,u10,.pointer (some ⟨yw1.heap.size, 0, none⟩),u12,u13,u14,u15,u16,u17,u18,u19,u20,u21,u22,u23,u24,u25,u26,u27,u28,u29,u30,u31,u32,u33,u34,u35,u36,u37,u38,u39,u40,u41,u42,u43,u44,u45,u46,u47,u48,u49,u50,u51,u52,u53,u54,u55,u56,u57,u58,u59,u60,u61,u62,u63,u64,u65,u66,u67,u68,u69,u70,u71,u72,u73,u74,u75,u76,u77,u78,u79,u80,u81,u82,u83,u84,u85,u86,u87,u88,u89,u90,u91,u92,u93,u94,u95,u96,u97,u98,u99,u100,u101,u102,u103,u104,u105,u106,u107,u108,u109,u110,u111,u112,u113,u114,u115,u116,u117,u118,u119,u120,u121,.bool true,.agg (cnCells d),.agg (sgCells ⟨0, 0, d.mx, d.iN, 16, rm, 0, ByteArray.empty⟩),.pointer (some ⟨w.heap.size, 3, none⟩),.int .u32 d.nxt,.pointer (some ⟨yw1.heap.size, 2, none⟩),u128,u129,u130,u131,u132,u133,u134,u135,u136,u137,u138,u139,u140,U,U,u143,u144,U,u146,u147,u148,u149,u150,u151,u152,u153,u154,u155,u156,u157,u158,u159,u160,u161,u162,u163,u164,u165,u166,u167,u168,u169,u170,u171,u172,u173,u174,u175,u176,u177,u178,u179,u180,u181,u182,u183,u184,u185,u186,u187,u188,u189,u190,u191,u192,u193,u194,u195,u196,u197,u198] ?_
        go_upto_region 27 with (fail)
        refine vR ?_
        refine vV (.pointer (some ⟨yw1.heap.size, 4, none⟩)) ?_
        refine sC (sgCells ⟨0, 0, d.nxt, d.iN, 17, rm, 0, ByteArray.empty⟩) yB11 4 (.int .i64 17) rfl ?_
        intro yw12 yt13 yB14
        clear yB11
        replace A := A.touch yt13 (by omega)
        replace Z := Z.touch yt13 (by omega)
        replace L := L.touch yt13 (by omega)
        replace G := since_touch G yt13 (by omega)
        have yt13_s := yt13.size
        refine vE #[.agg (cnCells c),.int .i64 now,.pointer (some ⟨w.heap.size, 0, none⟩),U,.pointer (some ⟨w.heap.size + 1, 0, none⟩),.slice none 0 0,.slice (some ⟨g, 0, none⟩) n cap,u7,u8,u9,u10,.pointer (some ⟨yw1.heap.size, 0, none⟩),u12,u13,u14,u15,u16,u17,u18,u19,u20,u21,u22,u23,u24,u25,u26,u27,u28,u29,u30,u31,u32,u33,u34,u35,u36,u37,u38,u39,u40,u41,u42,u43,u44,u45,u46,u47,u48,u49,u50,u51,u52,u53,u54,u55,u56,u57,u58,u59,u60,u61,u62,u63,u64,u65,u66,u67,u68,u69,u70,u71,u72,u73,u74,u75,u76,u77,u78,u79,u80,u81,u82,u83,u84,u85,u86,u87,u88,u89,u90,u91,u92,u93,u94,u95,u96,u97,u98,u99,u100,u101,u102,u103,u104,u105,u106,u107,u108,u109,u110,u111,u112,u113,u114,u115,u116,u117,u118,u119,u120,u121,.bool true,.agg (cnCells d),.agg (sgCells ⟨0, 0, d.mx, d.iN, 16, rm, 0, ByteArray.empty⟩),.pointer (some ⟨w.heap.size, 3, none⟩),.int .u32 d.nxt,.pointer (some ⟨yw1.heap.size, 2, none⟩),.pointer (some ⟨yw1.heap.size, 4, none⟩),u129,u130,u131,u132,u133,u134,u135,u136,u137,u138,u139,u140,U,U,u143,u144,U,u146,u147,u148,u149,u150,u151,u152,u153,u154,u155,u156,u157,u158,u159,u160,u161,u162,u163,u164,u165,u166,u167,u168,u169,u170,u171,u172,u173,u174,u175,u176,u177,u178,u179,u180,u181,u182,u183,u184,u185,u186,u187,u188,u189,u190,u191,u192,u193,u194,u195,u196,u197,u198] ?_
        go_upto_region 28 with (fail)
        refine vR ?_
        refine vV (.slice (some ⟨g, 0, none⟩) n cap) ?_
        refine vB seg_big yB14 rfl ?_
        refine vW (yw12.alloc (.cells (sgCells ⟨0, 0, d.nxt, d.iN, 17, rm, 0, ByteArray.empty⟩) 61)) (.slice (some ⟨yw12.heap.size, 0, none⟩) 1 1) ?_
        have yL16 := heldG1 yw12 (⟨0, 0, d.nxt, d.iN, 17, rm, 0, ByteArray.empty⟩)
        have yg17 := (Since.refl yw12).alloc (.cells (sgCells ⟨0, 0, d.nxt, d.iN, 17, rm, 0, ByteArray.empty⟩) 61)
        replace A := A.since yg17
        replace Z := Z.since yg17
        replace yB14 := yB14.since yg17
        replace L := L.since yg17
        replace G := G.trans yg17
        generalize yw12.alloc (.cells (sgCells ⟨0, 0, d.nxt, d.iN, 17, rm, 0, ByteArray.empty⟩) 61) = yw15 at A Z yB14 L G yL16 yg17 ⊢
        have yg17_s := yg17.size
        have yL16_l := yL16.lt
        refine vA L yL16.reads (by unfold maxLen; omega) (by omega) (by have := G.size; omega) ?_
        intro yb22 yc23 yw18 yL19 yr20 ho
        have yt21 := touch_grownG yr20
        have yL19_o := L.low'
        have yL19_p := L.lt
        replace ho := own_or ho
        replace A := A.touch yt21 (by omega)
        replace Z := Z.touch yt21 (by omega)
        replace yB14 := yB14.touch yt21 (by omega)
        replace G := since_touch G yt21 (by omega)
        have yt21_s := yt21.size
        have yL19_o2 := yL19.low'
        have yL19_l := yL19.lt
        clear L yL16
        refine vV (.slice (some ⟨yb22, 0, none⟩) (n + 1) yc23) ?_
        refine vE #[.agg (cnCells c),.int .i64 now,.pointer (some ⟨w.heap.size, 0, none⟩),U,.pointer (some ⟨w.heap.size + 1, 0, none⟩),.slice none 0 0,.slice (some ⟨yb22, 0, none⟩) (n + 1) yc23,u7,u8,u9,u10,.pointer (some ⟨yw1.heap.size, 0, none⟩),u12,u13,u14,u15,u16,u17,u18,u19,u20,u21,u22,u23,u24,u25,u26,u27,u28,u29,u30,u31,u32,u33,u34,u35,u36,u37,u38,u39,u40,u41,u42,u43,u44,u45,u46,u47,u48,u49,u50,u51,u52,u53,u54,u55,u56,u57,u58,u59,u60,u61,u62,u63,u64,u65,u66,u67,u68,u69,u70,u71,u72,u73,u74,u75,u76,u77,u78,u79,u80,u81,u82,u83,u84,u85,u86,u87,u88,u89,u90,u91,u92,u93,u94,u95,u96,u97,u98,u99,u100,u101,u102,u103,u104,u105,u106,u107,u108,u109,u110,u111,u112,u113,u114,u115,u116,u117,u118,u119,u120,u121,.bool true,.agg (cnCells d),.agg (sgCells ⟨0, 0, d.mx, d.iN, 16, rm, 0, ByteArray.empty⟩),.pointer (some ⟨w.heap.size, 3, none⟩),.int .u32 d.nxt,.pointer (some ⟨yw1.heap.size, 2, none⟩),.pointer (some ⟨yw1.heap.size, 4, none⟩),.slice (some ⟨g, 0, none⟩) n cap,.agg (sgCells ⟨0, 0, d.nxt, d.iN, 17, rm, 0, ByteArray.empty⟩),.slice (some ⟨yw12.heap.size, 0, none⟩) 1 1,.slice (some ⟨yb22, 0, none⟩) (n + 1) yc23,u133,u134,u135,u136,u137,u138,u139,u140,U,U,u143,u144,U,u146,u147,u148,u149,u150,u151,u152,u153,u154,u155,u156,u157,u158,u159,u160,u161,u162,u163,u164,u165,u166,u167,u168,u169,u170,u171,u172,u173,u174,u175,u176,u177,u178,u179,u180,u181,u182,u183,u184,u185,u186,u187,u188,u189,u190,u191,u192,u193,u194,u195,u196,u197,u198] ?_
        go_upto_region 29 with (fail)
        refine vR ?_
        refine vV (.pointer (some ⟨w.heap.size, 16, none⟩)) ?_
        refine sC (cnCells { d with fsn := true }) A 16 (.bool true) (cn_size _) ?_
        intro yw24 yt25 yB26
        clear A
        replace Z := Z.touch yt25 (by omega)
        replace yB14 := yB14.touch yt25 (by omega)
        replace yL19 := yL19.touch yt25 (by omega)
        replace G := since_touch G yt25 (by omega)
        have yt25_s := yt25.size
        refine vE #[.agg (cnCells c),.int .i64 now,.pointer (some ⟨w.heap.size, 0, none⟩),U,.pointer (some ⟨w.heap.size + 1, 0, none⟩),.slice none 0 0,.slice (some ⟨yb22, 0, none⟩) (n + 1) yc23,u7,u8,u9,u10,.pointer (some ⟨yw1.heap.size, 0, none⟩),u12,u13,u14,u15,u16,u17,u18,u19,u20,u21,u22,u23,u24,u25,u26,u27,u28,u29,u30,u31,u32,u33,u34,u35,u36,u37,u38,u39,u40,u41,u42,u43,u44,u45,u46,u47,u48,u49,u50,u51,u52,u53,u54,u55,u56,u57,u58,u59,u60,u61,u62,u63,u64,u65,u66,u67,u68,u69,u70,u71,u72,u73,u74,u75,u76,u77,u78,u79,u80,u81,u82,u83,u84,u85,u86,u87,u88,u89,u90,u91,u92,u93,u94,u95,u96,u97,u98,u99,u100,u101,u102,u103,u104,u105,u106,u107,u108,u109,u110,u111,u112,u113,u114,u115,u116,u117,u118,u119,u120,u121,.bool true,.agg (cnCells d),.agg (sgCells ⟨0, 0, d.mx, d.iN, 16, rm, 0, ByteArray.empty⟩),.pointer (some ⟨w.heap.size, 3, none⟩),.int .u32 d.nxt,.pointer (some ⟨yw1.heap.size, 2, none⟩),.pointer (some ⟨yw1.heap.size, 4, none⟩),.slice (some ⟨g, 0, none⟩) n cap,.agg (sgCells ⟨0, 0, d.nxt, d.iN, 17, rm, 0, ByteArray.empty⟩),.slice (some ⟨yw12.heap.size, 0, none⟩) 1 1,.slice (some ⟨yb22, 0, none⟩) (n + 1) yc23,.pointer (some ⟨w.heap.size, 16, none⟩),u134,u135,u136,u137,u138,u139,u140,U,U,u143,u144,U,u146,u147,u148,u149,u150,u151,u152,u153,u154,u155,u156,u157,u158,u159,u160,u161,u162,u163,u164,u165,u166,u167,u168,u169,u170,u171,u172,u173,u174,u175,u176,u177,u178,u179,u180,u181,u182,u183,u184,u185,u186,u187,u188,u189,u190,u191,u192,u193,u194,u195,u196,u197,u198] ?_
        go_upto_region 30 with (fail)
        refine vR ?_
        refine vV (.pointer (some ⟨w.heap.size, 3, none⟩)) ?_
        refine vD (.int .u32 d.nxt) (yB26.cell 3) ?_
        refine vV (.pointer (some ⟨w.heap.size, 17, none⟩)) ?_
        refine sC (cnCells { d with fsn := true, fsq := d.nxt }) yB26 17 (.int .u32 d.nxt) (cn_size _) ?_
        intro yw27 yt28 yB29
        clear yB26
        replace Z := Z.touch yt28 (by omega)
        replace yB14 := yB14.touch yt28 (by omega)
        replace yL19 := yL19.touch yt28 (by omega)
        replace G := since_touch G yt28 (by omega)
        have yt28_s := yt28.size
        refine vE #[.agg (cnCells c),.int .i64 now,.pointer (some ⟨w.heap.size, 0, none⟩),U,.pointer (some ⟨w.heap.size + 1, 0, none⟩),.slice none 0 0,.slice (some ⟨yb22, 0, none⟩) (n + 1) yc23,u7,u8,u9,u10,.pointer (some ⟨yw1.heap.size, 0, none⟩),u12,u13,u14,u15,u16,u17,u18,u19,u20,u21,u22,u23,u24,u25,u26,u27,u28,u29,u30,u31,u32,u33,u34,u35,u36,u37,u38,u39,u40,u41,u42,u43,u44,u45,u46,u47,u48,u49,u50,u51,u52,u53,u54,u55,u56,u57,u58,u59,u60,u61,u62,u63,u64,u65,u66,u67,u68,u69,u70,u71,u72,u73,u74,u75,u76,u77,u78,u79,u80,u81,u82,u83,u84,u85,u86,u87,u88,u89,u90,u91,u92,u93,u94,u95,u96,u97,u98,u99,u100,u101,u102,u103,u104,u105,u106,u107,u108,u109,u110,u111,u112,u113,u114,u115,u116,u117,u118,u119,u120,u121,.bool true,.agg (cnCells d),.agg (sgCells ⟨0, 0, d.mx, d.iN, 16, rm, 0, ByteArray.empty⟩),.pointer (some ⟨w.heap.size, 3, none⟩),.int .u32 d.nxt,.pointer (some ⟨yw1.heap.size, 2, none⟩),.pointer (some ⟨yw1.heap.size, 4, none⟩),.slice (some ⟨g, 0, none⟩) n cap,.agg (sgCells ⟨0, 0, d.nxt, d.iN, 17, rm, 0, ByteArray.empty⟩),.slice (some ⟨yw12.heap.size, 0, none⟩) 1 1,.slice (some ⟨yb22, 0, none⟩) (n + 1) yc23,.pointer (some ⟨w.heap.size, 16, none⟩),.pointer (some ⟨w.heap.size, 3, none⟩),.int .u32 d.nxt,.pointer (some ⟨w.heap.size, 17, none⟩),u137,u138,u139,u140,U,U,u143,u144,U,u146,u147,u148,u149,u150,u151,u152,u153,u154,u155,u156,u157,u158,u159,u160,u161,u162,u163,u164,u165,u166,u167,u168,u169,u170,u171,u172,u173,u174,u175,u176,u177,u178,u179,u180,u181,u182,u183,u184,u185,u186,u187,u188,u189,u190,u191,u192,u193,u194,u195,u196,u197,u198] ?_
        go_upto_region 31 with (fail)
        refine vR ?_
        refine vB cn_big yB29 (cn_size _) ?_
        refine vV (.int .i64 now) ?_
        refine vK (hWn _) ?_
        intro yw30 yg31
        replace yB29 := yB29.since yg31
        replace Z := Z.since yg31
        replace yB14 := yB14.since yg31
        replace yL19 := yL19.since yg31
        replace G := G.trans yg31
        have yg31_s := yg31.size
        refine sB (cnCells (finW d now)) cn_big yB29 (cn_size _) (cn_size _) (cn_one _) ?_
        intro yw32 yt33 yB34
        clear yB29
        replace Z := Z.touch yt33 (by omega)
        replace yB14 := yB14.touch yt33 (by omega)
        replace yL19 := yL19.touch yt33 (by omega)
        replace G := since_touch G yt33 (by omega)
        have yt33_s := yt33.size
        refine vE #[.agg (cnCells c),.int .i64 now,.pointer (some ⟨w.heap.size, 0, none⟩),U,.pointer (some ⟨w.heap.size + 1, 0, none⟩),.slice none 0 0,.slice (some ⟨yb22, 0, none⟩) (n + 1) yc23,u7,u8,u9,u10,.pointer (some ⟨yw1.heap.size, 0, none⟩),u12,u13,u14,u15,u16,u17,u18,u19,u20,u21,u22,u23,u24,u25,u26,u27,u28,u29,u30,u31,u32,u33,u34,u35,u36,u37,u38,u39,u40,u41,u42,u43,u44,u45,u46,u47,u48,u49,u50,u51,u52,u53,u54,u55,u56,u57,u58,u59,u60,u61,u62,u63,u64,u65,u66,u67,u68,u69,u70,u71,u72,u73,u74,u75,u76,u77,u78,u79,u80,u81,u82,u83,u84,u85,u86,u87,u88,u89,u90,u91,u92,u93,u94,u95,u96,u97,u98,u99,u100,u101,u102,u103,u104,u105,u106,u107,u108,u109,u110,u111,u112,u113,u114,u115,u116,u117,u118,u119,u120,u121,.bool true,.agg (cnCells d),.agg (sgCells ⟨0, 0, d.mx, d.iN, 16, rm, 0, ByteArray.empty⟩),.pointer (some ⟨w.heap.size, 3, none⟩),.int .u32 d.nxt,.pointer (some ⟨yw1.heap.size, 2, none⟩),.pointer (some ⟨yw1.heap.size, 4, none⟩),.slice (some ⟨g, 0, none⟩) n cap,.agg (sgCells ⟨0, 0, d.nxt, d.iN, 17, rm, 0, ByteArray.empty⟩),.slice (some ⟨yw12.heap.size, 0, none⟩) 1 1,.slice (some ⟨yb22, 0, none⟩) (n + 1) yc23,.pointer (some ⟨w.heap.size, 16, none⟩),.pointer (some ⟨w.heap.size, 3, none⟩),.int .u32 d.nxt,.pointer (some ⟨w.heap.size, 17, none⟩),.agg (cnCells { d with fsn := true, fsq := d.nxt }),.int .i64 now,.agg (cnCells (finW d now)),u140,U,U,u143,u144,U,u146,u147,u148,u149,u150,u151,u152,u153,u154,u155,u156,u157,u158,u159,u160,u161,u162,u163,u164,u165,u166,u167,u168,u169,u170,u171,u172,u173,u174,u175,u176,u177,u178,u179,u180,u181,u182,u183,u184,u185,u186,u187,u188,u189,u190,u191,u192,u193,u194,u195,u196,u197,u198] ?_
        have hxs : Held shG yw32 w.heap.size yb22 (n + 1) yc23 (xs ++ [finSg d ps]) := by
          have := yL19
          unfold finSg
          rw [← hrm.out]
          exact this
        have f_st : yw32.cell? ⟨w.heap.size, 0, none⟩ = some (.int .i64 d.st) := yB34.cell 0
        have z_st := yB34.fz 0
        by_cases h3 : d.st = 3
        case pos =>
          rw [h3] at f_st
          replace h3 : Hid _ := h3
          obtain ⟨y1, e1, t1, B1⟩ := put_cn (c' := { finW d now with st := 4 }) yB34 0 (.int .i64 4) (by decide) rfl
          have hx2 := hxs.touch t1 (by omega)
          have hz2 := Z.touch t1 (by omega)
          have hg3 := since_touch G t1 (by omega)
          have hfc : Hid (finC d now = { finW d now with st := 4 }) := by
            show _ = _
            unfold finC; rw [if_pos h3.out]
          go_wp2_with (fail)
          go_meet
          case rel =>
            refine ⟨finC d now, _, _, _, _, rfl, ?_, hz2, hx2, hg3, by omega, sd.fin now, by omega, (by show _ = _; unfold fin2; rw [← hfb.out]; rfl)⟩
            rw [hfc.out]
            exact B1
        case neg =>
        by_cases h6 : d.st = 6
        case pos =>
          rw [h6] at f_st
          replace h6 : Hid _ := h6
          replace h3 : Hid _ := h3
          obtain ⟨y1, e1, t1, B1⟩ := put_cn (c' := { finW d now with st := 8 }) yB34 0 (.int .i64 8) (by decide) rfl
          have hx2 := hxs.touch t1 (by omega)
          have hz2 := Z.touch t1 (by omega)
          have hg3 := since_touch G t1 (by omega)
          have hfc : Hid (finC d now = { finW d now with st := 8 }) := by
            show _ = _
            unfold finC; rw [if_neg h3.out, if_pos h6.out]
          go_wp2_with (fail)
          go_meet
          case rel =>
            refine ⟨finC d now, _, _, _, _, rfl, ?_, hz2, hx2, hg3, by omega, sd.fin now, by omega, (by show _ = _; unfold fin2; rw [← hfb.out]; rfl)⟩
            rw [hfc.out]
            exact B1
        case neg =>
          have m3 : (d.st == 3) = false := by simpa using h3
          have m6 : (d.st == 6) = false := by simpa using h6
          replace h3 : Hid _ := h3
          replace h6 : Hid _ := h6
          have hfc : Hid (finC d now = finW d now) := by
            show _ = _
            unfold finC; rw [if_neg h3.out, if_neg h6.out]
          go_wp2_with (fail)
          go_meet
          case rel =>
            refine ⟨finC d now, _, _, _, _, rfl, ?_, Z, hxs, G, by omega, sd.fin now, by omega, (by show _ = _; unfold fin2; rw [← hfb.out]; rfl)⟩
            rw [hfc.out]
            exact yB34
    case rest =>
    clear A Z L G
    obtain ⟨e, ge, ne, ce, ye, rfl, A, Z, L, G, hge, se, hne, hfe⟩ := hcut
    have ha : Hid (SV = owe2 ps (prbC e now, ye)) := by
      show SV = _
      rw [hall.out, ← hfe.out]
    refine ‹∀ (a : Act) (w : World), Code.wp Tryz.prog _ _ a w → _› _ _ ?_
    exact Eq.mp (by kernel_rfl) (tail37 c e ps now SV w wc ge ne ce ye u7 u8 u9 u10 u11 u12 u13 u14 u15 u16 u17 u18 u19 u20 u21 u22 u23 u24 u25 u26 u27 u28 u29 u30 u31 u32 u33 u34 u35 u36 u37 u38 u39 u40 u41 u42 u43 u44 u45 u46 u47 u48 u49 u50 u51 u52 u53 u54 u55 u56 u57 u58 u59 u60 u61 u62 u63 u64 u65 u66 u67 u68 u69 u70 u71 u72 u73 u74 u75 u76 u77 u78 u79 u80 u81 u82 u83 u84 u85 u86 u87 u88 u89 u90 u91 u92 u93 u94 u95 u96 u97 u98 u99 u100 u101 u102 u103 u104 u105 u106 u107 u108 u109 u110 u111 u112 u113 u114 u115 u116 u117 u118 u119 u120 u121 u122 u123 u124 u125 u126 u127 u128 u129 u130 u131 u132 u133 u134 u135 u136 u137 u138 u139 u140 u141 u142 u143 u144 u145 u146 u147 u148 u149 u150 u151 u152 u153 u154 u155 u156 u157 u158 u159 u160 u161 u162 u163 u164 u165 u166 u167 u168 u169 u170 u171 u172 u173 u174 u175 u176 u177 u178 u179 u180 u181 u182 u183 u184 u185 u186 u187 u188 u189 u190 u191 u192 u193 u194 u195 u196 u197 u198 ms h0 h1 R A Z L G hge (by omega) se ha)
end Go.Proofs.YtfenlfijfjcdbaaGreat
