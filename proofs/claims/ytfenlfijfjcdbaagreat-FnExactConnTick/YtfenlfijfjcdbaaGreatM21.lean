/-
  What an end sends behind its pieces, as spec does it.
  What an end sends behind its pieces, as spec does it, from an earlier point on.
-/
import Derived.Test.YtfenlfijfjcdbaaGreatM18
import Derived.Test.YtfenlfijfjcdbaaGreatM7
import Derived.Test.YtfenlfijfjcdbaaGreatM19
import Derived.Test.YtfenlfijfjcdbaaGreatM12
import Derived.Deep.DeepCutAuto
namespace Go.Proofs.YtfenlfijfjcdbaaGreat
open Go.ChangeShapes Go.WideShapes Go.ChangeAt Go.RowKit
set_option linter.unusedVariables false
set_option maxRecDepth 10000

def tailOf : Nat → Code → Code
  | k + 1, .seq _ c => tailOf k c
  | _, c => c

set_option maxRecDepth 20000 in
set_option maxHeartbeats 16000000 in
theorem tail39 (c h : Cn) (ps : List (Int × ByteArray)) (now : Int) (SV : Cn × List Sg) (w x5 : World) (ge ne ce : Nat) (ye : List Sg) (u7 u8 u9 u10 u11 u12 u13 u14 u15 u16 u17 u18 u19 u20 u21 u22 u23 u24 u25 u26 u27 u28 u29 u30 u31 u32 u33 u34 u35 u36 u37 u38 u39 u40 u41 u42 u43 u44 u45 u46 u47 u48 u49 u50 u51 u52 u53 u54 u55 u56 u57 u58 u59 u60 u61 u62 u63 u64 u65 u66 u67 u68 u69 u70 u71 u72 u73 u74 u75 u76 u77 u78 u79 u80 u81 u82 u83 u84 u85 u86 u87 u88 u89 u90 u91 u92 u93 u94 u95 u96 u97 u98 u99 u100 u101 u102 u103 u104 u105 u106 u107 u108 u109 u110 u111 u112 u113 u114 u115 u116 u117 u118 u119 u120 u121 u122 u123 u124 u125 u126 u127 u128 u129 u130 u131 u132 u133 u134 u135 u136 u137 u138 u139 u140 u141 u142 u143 u144 u145 u146 u147 u148 u149 u150 u151 u152 u153 u154 u155 u156 u157 u158 u159 u160 u161 u162 u163 u164 u165 u166 u167 u168 u169 u170 u171 u172 u173 u174 u175 u176 u177 u178 u179 u180 u181 u182 u183 u184 u185 u186 u187 u188 u189 u190 u191 u192 u193 u194 u195 u196 u197 u198 : Value)  (A : Blk w.heap.size x5 (cnCells h)) (Z : Blk (w.heap.size + 1) x5 (cnCells cnZero)) (L : Held shG x5 w.heap.size ge ne ce ye) (G : Since w x5) (hge : w.heap.size + 1 < ge) (hnb3 : (ne : Int) ≤ 100003) (hd_gd : Good h.iN h.iD h.iR h.pn ps) (hd_R : Rd shP w h.pa h.pn ps) (hall : Hid (SV = owe2 ps (h, ye))) :
    Code.wp Tryz.prog (tailOf 5 (Tryz.f29.body.getD .skip)) (bodyPost Tryz.prog Tryz.f29 (fun e w' => ∃ g n cap, e = .returned (.tuple #[.agg (cnCells SV.1), .slice (some ⟨g, 0, none⟩) n cap]) ∧ Held shG w' w.heap.size g n cap SV.2 ∧ Since w w')) { tmps := #[.agg (cnCells c), .int .i64 now, .pointer (some ⟨w.heap.size, 0, none⟩), undef, .pointer (some ⟨w.heap.size + 1, 0, none⟩), .slice none 0 0, .slice (some ⟨ge, 0, none⟩) ne ce, u7, u8, u9, u10, u11, u12, u13, u14, u15, u16, u17, u18, u19, u20, u21, u22, u23, u24, u25, u26, u27, u28, u29, u30, u31, u32, u33, u34, u35, u36, u37, u38, u39, u40, u41, u42, u43, u44, u45, u46, u47, u48, u49, u50, u51, u52, u53, u54, u55, u56, u57, u58, u59, u60, u61, u62, u63, u64, u65, u66, u67, u68, u69, u70, u71, u72, u73, u74, u75, u76, u77, u78, u79, u80, u81, u82, u83, u84, u85, u86, u87, u88, u89, u90, u91, u92, u93, u94, u95, u96, u97, u98, u99, u100, u101, u102, u103, u104, u105, u106, u107, u108, u109, u110, u111, u112, u113, u114, u115, u116, u117, u118, u119, u120, u121, u122, u123, u124, u125, u126, u127, u128, u129, u130, u131, u132, u133, u134, u135, u136, u137, u138, u139, u140, u141, u142, u143, u144, u145, u146, u147, u148, u149, u150, u151, u152, u153, u154, u155, u156, u157, u158, u159, u160, u161, u162, u163, u164, u165, u166, u167, u168, u169, u170, u171, u172, u173, u174, u175, u176, u177, u178, u179, u180, u181, u182, u183, u184, u185, u186, u187, u188, u189, u190, u191, u192, u193, u194, u195, u196, u197, u198], defers := [] } x5 := by
    conv => arg 2; whnf
    conv => arg 4; zeta
    have hZ_x5 := Z.lt
    have hL_x5 := L.lt
    have hG_x5 := G.size
    have hS := True.intro
    obtain ⟨ob, hob⟩ : ∃ q, Hid (q = oweB h) := ⟨_, rfl⟩
    have hoo := hob.out
    unfold oweB at hoo
    replace hoo : Hid _ := hoo
    go_upto_region 39 with (fail)
    go_cut [190] (fun v wx => v = .bool ob ∧ Blk w.heap.size wx (cnCells h) ∧ Blk (w.heap.size + 1) wx (cnCells cnZero) ∧ Held shG wx w.heap.size ge ne ce ye ∧ Since w wx)
    case first =>
      rcases Bool.eq_false_or_eq_true h.owe with ho | ho
      all_goals replace ho : Hid _ := ho
      case inr =>
        refine vR ?_
        refine vV (.pointer (some ⟨w.heap.size, 36, none⟩)) ?_
        refine vD (.bool false) ((A.cell 36).trans (by show some (.bool h.owe : Value) = some (.bool false : Value); rw [ho.out])) ?_
        refine vV (.bool false) ?_
        refine vS ?_
        refine vS ?_
        refine vS ?_
        refine vV (.bool false) ?_
        refine vV (.bool false) ?_
        refine vS ?_
        refine vS ?_
        refine vS ?_
        refine vV (.bool false) ?_
        refine vE #[.agg (cnCells c),.int .i64 now,.pointer (some ⟨w.heap.size, 0, none⟩),U,.pointer (some ⟨w.heap.size + 1, 0, none⟩),.slice none 0 0,.slice (some ⟨ge, 0, none⟩) ne ce,u7,u8,u9,u10,u11,u12,u13,u14,u15,u16,u17,u18,u19,u20,u21,u22,u23,u24,u25,u26,u27,u28,u29,u30,u31,u32,u33,u34,u35,u36,u37,u38,u39,u40,u41,u42,u43,u44,u45,u46,u47,u48,u49,u50,u51,u52,u53,u54,u55,u56,u57,u58,u59,u60,u61,u62,u63,u64,u65,u66,u67,u68,u69,u70,u71,u72,u73,u74,u75,u76,u77,u78,u79,u80,u81,u82,u83,u84,u85,u86,u87,u88,u89,u90,u91,u92,u93,u94,u95,u96,u97,u98,u99,u100,u101,u102,u103,u104,u105,u106,u107,u108,u109,u110,u111,u112,u113,u114,u115,u116,u117,u118,u119,u120,u121,u122,u123,u124,u125,u126,u127,u128,u129,u130,u131,u132,u133,u134,u135,u136,u137,u138,u139,u140,u141,u142,u143,u144,u145,u146,u147,u148,u149,u150,u151,u152,u153,u154,u155,u156,u157,u158,u159,u160,u161,u162,u163,u164,u165,u166,u167,u168,u169,u170,u171,u172,u173,u174,u175,u176,u177,u178,.pointer (some ⟨w.heap.size, 36, none⟩),.bool false,.bool false,U,U,U,.bool false,.bool false,U,U,U,.bool false,u191,u192,u193,u194,u195,u196,u197,u198] ?_
        have e9 : Hid (ob = false) := hoo.out.trans (by rw [ho.out]; rfl)
        go_wp2_with (fail)
        go_meet
        case rel => exact ⟨by rw [e9.out], A, Z, L, G⟩
      case inl =>
      by_cases hs0 : h.st = 0
      case pos =>
        have m0 : Hid ((h.st != 0) = false) := by show (h.st != 0) = false; simp [hs0]
        replace hs0 : Hid _ := hs0
        refine vR ?_
        refine vV (.pointer (some ⟨w.heap.size, 36, none⟩)) ?_
        refine vD (.bool true) ((A.cell 36).trans (by show some (.bool h.owe : Value) = some (.bool true : Value); rw [ho.out])) ?_
        refine vV (.bool true) ?_
        refine vV (.pointer (some ⟨w.heap.size, 0, none⟩)) ?_
        refine vD (.int .i64 h.st) (A.cell 0) ?_
        refine vV (.bool false) ?_ (hrun := by rw [show false = (h.st != 0) from m0.out.symm]; kernel_rfl)
        refine vV (.bool false) ?_
        refine vV (.bool false) ?_
        refine vS ?_
        refine vS ?_
        refine vS ?_
        refine vV (.bool false) ?_
        refine vE #[.agg (cnCells c),.int .i64 now,.pointer (some ⟨w.heap.size, 0, none⟩),U,.pointer (some ⟨w.heap.size + 1, 0, none⟩),.slice none 0 0,.slice (some ⟨ge, 0, none⟩) ne ce,u7,u8,u9,u10,u11,u12,u13,u14,u15,u16,u17,u18,u19,u20,u21,u22,u23,u24,u25,u26,u27,u28,u29,u30,u31,u32,u33,u34,u35,u36,u37,u38,u39,u40,u41,u42,u43,u44,u45,u46,u47,u48,u49,u50,u51,u52,u53,u54,u55,u56,u57,u58,u59,u60,u61,u62,u63,u64,u65,u66,u67,u68,u69,u70,u71,u72,u73,u74,u75,u76,u77,u78,u79,u80,u81,u82,u83,u84,u85,u86,u87,u88,u89,u90,u91,u92,u93,u94,u95,u96,u97,u98,u99,u100,u101,u102,u103,u104,u105,u106,u107,u108,u109,u110,u111,u112,u113,u114,u115,u116,u117,u118,u119,u120,u121,u122,u123,u124,u125,u126,u127,u128,u129,u130,u131,u132,u133,u134,u135,u136,u137,u138,u139,u140,u141,u142,u143,u144,u145,u146,u147,u148,u149,u150,u151,u152,u153,u154,u155,u156,u157,u158,u159,u160,u161,u162,u163,u164,u165,u166,u167,u168,u169,u170,u171,u172,u173,u174,u175,u176,u177,u178,.pointer (some ⟨w.heap.size, 36, none⟩),.bool true,.bool true,.pointer (some ⟨w.heap.size, 0, none⟩),.int .i64 h.st,.bool false,.bool false,.bool false,U,U,U,.bool false,u191,u192,u193,u194,u195,u196,u197,u198] ?_
        have e9 : Hid (ob = false) := hoo.out.trans (by rw [ho.out, hs0.out]; rfl)
        go_wp2_with (fail)
        go_meet
        case rel => exact ⟨by rw [e9.out], A, Z, L, G⟩
      case neg =>
      have m0 : Hid ((h.st != 0) = true) := by show (h.st != 0) = true; simpa using hs0
      replace hs0 : Hid _ := hs0
      by_cases hs1 : h.st = 1
      case pos =>
        have m1 : Hid ((h.st != 1) = false) := by show (h.st != 1) = false; simp [hs1]
        replace hs1 : Hid _ := hs1
        refine vR ?_
        refine vV (.pointer (some ⟨w.heap.size, 36, none⟩)) ?_
        refine vD (.bool true) ((A.cell 36).trans (by show some (.bool h.owe : Value) = some (.bool true : Value); rw [ho.out])) ?_
        refine vV (.bool true) ?_
        refine vV (.pointer (some ⟨w.heap.size, 0, none⟩)) ?_
        refine vD (.int .i64 h.st) (A.cell 0) ?_
        refine vV (.bool true) ?_ (hrun := by rw [show true = (h.st != 0) from m0.out.symm]; kernel_rfl)
        refine vV (.bool true) ?_
        refine vV (.bool true) ?_
        refine vV (.pointer (some ⟨w.heap.size, 0, none⟩)) ?_
        refine vD (.int .i64 h.st) (A.cell 0) ?_
        refine vV (.bool false) ?_ (hrun := by rw [show false = (h.st != 1) from m1.out.symm]; kernel_rfl)
        refine vV (.bool false) ?_
        refine vE #[.agg (cnCells c),.int .i64 now,.pointer (some ⟨w.heap.size, 0, none⟩),U,.pointer (some ⟨w.heap.size + 1, 0, none⟩),.slice none 0 0,.slice (some ⟨ge, 0, none⟩) ne ce,u7,u8,u9,u10,u11,u12,u13,u14,u15,u16,u17,u18,u19,u20,u21,u22,u23,u24,u25,u26,u27,u28,u29,u30,u31,u32,u33,u34,u35,u36,u37,u38,u39,u40,u41,u42,u43,u44,u45,u46,u47,u48,u49,u50,u51,u52,u53,u54,u55,u56,u57,u58,u59,u60,u61,u62,u63,u64,u65,u66,u67,u68,u69,u70,u71,u72,u73,u74,u75,u76,u77,u78,u79,u80,u81,u82,u83,u84,u85,u86,u87,u88,u89,u90,u91,u92,u93,u94,u95,u96,u97,u98,u99,u100,u101,u102,u103,u104,u105,u106,u107,u108,u109,u110,u111,u112,u113,u114,u115,u116,u117,u118,u119,u120,u121,u122,u123,u124,u125,u126,u127,u128,u129,u130,u131,u132,u133,u134,u135,u136,u137,u138,u139,u140,u141,u142,u143,u144,u145,u146,u147,u148,u149,u150,u151,u152,u153,u154,u155,u156,u157,u158,u159,u160,u161,u162,u163,u164,u165,u166,u167,u168,u169,u170,u171,u172,u173,u174,u175,u176,u177,u178,.pointer (some ⟨w.heap.size, 36, none⟩),.bool true,.bool true,.pointer (some ⟨w.heap.size, 0, none⟩),.int .i64 h.st,.bool true,.bool true,.bool true,.pointer (some ⟨w.heap.size, 0, none⟩),.int .i64 h.st,.bool false,.bool false,u191,u192,u193,u194,u195,u196,u197,u198] ?_
        have e9 : Hid (ob = false) := hoo.out.trans (by rw [ho.out, hs1.out]; rfl)
        go_wp2_with (fail)
        go_meet
        case rel => exact ⟨by rw [e9.out], A, Z, L, G⟩
      case neg =>
        have m1 : Hid ((h.st != 1) = true) := by show (h.st != 1) = true; simpa using hs1
        replace hs1 : Hid _ := hs1
        refine vR ?_
        refine vV (.pointer (some ⟨w.heap.size, 36, none⟩)) ?_
        refine vD (.bool true) ((A.cell 36).trans (by show some (.bool h.owe : Value) = some (.bool true : Value); rw [ho.out])) ?_
        refine vV (.bool true) ?_
        refine vV (.pointer (some ⟨w.heap.size, 0, none⟩)) ?_
        refine vD (.int .i64 h.st) (A.cell 0) ?_
        refine vV (.bool true) ?_ (hrun := by rw [show true = (h.st != 0) from m0.out.symm]; kernel_rfl)
        refine vV (.bool true) ?_
        refine vV (.bool true) ?_
        refine vV (.pointer (some ⟨w.heap.size, 0, none⟩)) ?_
        refine vD (.int .i64 h.st) (A.cell 0) ?_
        refine vV (.bool true) ?_ (hrun := by rw [show true = (h.st != 1) from m1.out.symm]; kernel_rfl)
        refine vV (.bool true) ?_
        refine vE #[.agg (cnCells c),.int .i64 now,.pointer (some ⟨w.heap.size, 0, none⟩),U,.pointer (some ⟨w.heap.size + 1, 0, none⟩),.slice none 0 0,.slice (some ⟨ge, 0, none⟩) ne ce,u7,u8,u9,u10,u11,u12,u13,u14,u15,u16,u17,u18,u19,u20,u21,u22,u23,u24,u25,u26,u27,u28,u29,u30,u31,u32,u33,u34,u35,u36,u37,u38,u39,u40,u41,u42,u43,u44,u45,u46,u47,u48,u49,u50,u51,u52,u53,u54,u55,u56,u57,u58,u59,u60,u61,u62,u63,u64,u65,u66,u67,u68,u69,u70,u71,u72,u73,u74,u75,u76,u77,u78,u79,u80,u81,u82,u83,u84,u85,u86,u87,u88,u89,u90,u91,u92,u93,u94,u95,u96,u97,u98,u99,u100,u101,u102,u103,u104,u105,u106,u107,u108,u109,u110,u111,u112,u113,u114,u115,u116,u117,u118,u119,u120,u121,u122,u123,u124,u125,u126,u127,u128,u129,u130,u131,u132,u133,u134,u135,u136,u137,u138,u139,u140,u141,u142,u143,u144,u145,u146,u147,u148,u149,u150,u151,u152,u153,u154,u155,u156,u157,u158,u159,u160,u161,u162,u163,u164,u165,u166,u167,u168,u169,u170,u171,u172,u173,u174,u175,u176,u177,u178,.pointer (some ⟨w.heap.size, 36, none⟩),.bool true,.bool true,.pointer (some ⟨w.heap.size, 0, none⟩),.int .i64 h.st,.bool true,.bool true,.bool true,.pointer (some ⟨w.heap.size, 0, none⟩),.int .i64 h.st,.bool true,.bool true,u191,u192,u193,u194,u195,u196,u197,u198] ?_
        have e9 : Hid (ob = true) := hoo.out.trans (by rw [ho.out, decide_eq_true (show h.st ≠ 0 from hs0.out), decide_eq_true (show h.st ≠ 1 from hs1.out)]; rfl)
        go_wp2_with (fail)
        go_meet
        case rel => exact ⟨by rw [e9.out], A, Z, L, G⟩
    case rest =>
    clear A Z L G
    obtain ⟨rfl, A, Z, L, G⟩ := hcut
    generalize wc = x6 at A Z L G ⊢
    have hZ_x6 := Z.lt
    have hL_x6 := L.lt
    have hG_x6 := G.size
    cases ob
    case false =>
      go_upto_region 42 with (fail)
      refine vR ?_
      refine vB cn_big A (cn_size _) ?_
      refine vV (.slice (some ⟨ge, 0, none⟩) ne ce) ?_
      refine sB (cnCells h) cn_big Z (cn_size _) (cn_size _) (cn_one _) ?_
      intro ew1 et2 eB3
      clear Z
      replace A := A.touch et2 (by omega)
      replace L := L.touch et2 (by omega)
      replace G := since_touch G et2 (by omega)
      have et2_s := et2.size
      refine vV (.slice (some ⟨ge, 0, none⟩) ne ce) ?_
      refine vE #[.agg (cnCells c),.int .i64 now,.pointer (some ⟨w.heap.size, 0, none⟩),U,.pointer (some ⟨w.heap.size + 1, 0, none⟩),.slice (some ⟨ge, 0, none⟩) ne ce,.slice (some ⟨ge, 0, none⟩) ne ce,u7,u8,u9,u10,u11,u12,u13,u14,u15,u16,u17,u18,u19,u20,u21,u22,u23,u24,u25,u26,u27,u28,u29,u30,u31,u32,u33,u34,u35,u36,u37,u38,u39,u40,u41,u42,u43,u44,u45,u46,u47,u48,u49,u50,u51,u52,u53,u54,u55,u56,u57,u58,u59,u60,u61,u62,u63,u64,u65,u66,u67,u68,u69,u70,u71,u72,u73,u74,u75,u76,u77,u78,u79,u80,u81,u82,u83,u84,u85,u86,u87,u88,u89,u90,u91,u92,u93,u94,u95,u96,u97,u98,u99,u100,u101,u102,u103,u104,u105,u106,u107,u108,u109,u110,u111,u112,u113,u114,u115,u116,u117,u118,u119,u120,u121,u122,u123,u124,u125,u126,u127,u128,u129,u130,u131,u132,u133,u134,u135,u136,u137,u138,u139,u140,u141,u142,u143,u144,u145,u146,u147,u148,u149,u150,u151,u152,u153,u154,u155,u156,u157,u158,u159,u160,u161,u162,u163,u164,u165,u166,u167,u168,u169,u170,u171,u172,u173,u174,u175,u176,u177,u178,u179,u180,u181,u182,u183,u184,u185,u186,u187,u188,u189,.bool false,u191,u192,u193,u194,u195,u196,.agg (cnCells h),.slice (some ⟨ge, 0, none⟩) ne ce] ?_
      go_wp2_with (fail)
      refine bodyPost_ret (results_cn2 (t := 4) (u := 5) rfl _ rfl eB3) rfl ⟨ge, ne, ce, ?_, ?_, G⟩
      · rw [hall.out]
        unfold owe2
        rw [← hob.out]
        rfl
      · rw [hall.out]
        unfold owe2
        rw [← hob.out]
        exact L
    case true =>
      have hAk := fun wx Rx => specAckSg h ps hd_gd wx Rx
      go_upto_region 40 with (fail)
      refine vR ?_
      refine vV (.slice (some ⟨ge, 0, none⟩) ne ce) ?_
      refine vB cn_big A (cn_size _) ?_
      refine vK (hAk _ (hd_R.since G)) ?_
      intro ew1 eg2
      replace A := A.since eg2
      replace Z := Z.since eg2
      replace L := L.since eg2
      replace G := G.trans eg2
      have eg2_s := eg2.size
      refine vW (ew1.alloc (.cells (sgCells (ackSg h ps)) 61)) (.slice (some ⟨ew1.heap.size, 0, none⟩) 1 1) ?_
      have eL4 := heldG1 ew1 ((ackSg h ps))
      have eg5 := (Since.refl ew1).alloc (.cells (sgCells (ackSg h ps)) 61)
      replace A := A.since eg5
      replace Z := Z.since eg5
      replace L := L.since eg5
      replace G := G.trans eg5
      generalize ew1.alloc (.cells (sgCells (ackSg h ps)) 61) = ew3 at A Z L G eL4 eg5 ⊢
      have eg5_s := eg5.size
      have eL4_l := eL4.lt
      refine vA L eL4.reads (by unfold maxLen; omega) (by omega) (by have := G.size; omega) ?_
      intro eb10 ec11 ew6 eL7 er8 ho
      have et9 := touch_grownG er8
      have eL7_o := L.low'
      have eL7_p := L.lt
      replace ho := own_or ho
      replace A := A.touch et9 (by omega)
      replace Z := Z.touch et9 (by omega)
      replace G := since_touch G et9 (by omega)
      have et9_s := et9.size
      have eL7_o2 := eL7.low'
      have eL7_l := eL7.lt
      clear L eL4
      refine vV (.slice (some ⟨eb10, 0, none⟩) (ne + 1) ec11) ?_
      refine vE #[.agg (cnCells c),.int .i64 now,.pointer (some ⟨w.heap.size, 0, none⟩),U,.pointer (some ⟨w.heap.size + 1, 0, none⟩),.slice none 0 0,.slice (some ⟨eb10, 0, none⟩) (ne + 1) ec11,u7,u8,u9,u10,u11,u12,u13,u14,u15,u16,u17,u18,u19,u20,u21,u22,u23,u24,u25,u26,u27,u28,u29,u30,u31,u32,u33,u34,u35,u36,u37,u38,u39,u40,u41,u42,u43,u44,u45,u46,u47,u48,u49,u50,u51,u52,u53,u54,u55,u56,u57,u58,u59,u60,u61,u62,u63,u64,u65,u66,u67,u68,u69,u70,u71,u72,u73,u74,u75,u76,u77,u78,u79,u80,u81,u82,u83,u84,u85,u86,u87,u88,u89,u90,u91,u92,u93,u94,u95,u96,u97,u98,u99,u100,u101,u102,u103,u104,u105,u106,u107,u108,u109,u110,u111,u112,u113,u114,u115,u116,u117,u118,u119,u120,u121,u122,u123,u124,u125,u126,u127,u128,u129,u130,u131,u132,u133,u134,u135,u136,u137,u138,u139,u140,u141,u142,u143,u144,u145,u146,u147,u148,u149,u150,u151,u152,u153,u154,u155,u156,u157,u158,u159,u160,u161,u162,u163,u164,u165,u166,u167,u168,u169,u170,u171,u172,u173,u174,u175,u176,u177,u178,u179,u180,u181,u182,u183,u184,u185,u186,u187,u188,u189,.bool true,.slice (some ⟨ge, 0, none⟩) ne ce,.agg (cnCells h),.agg (sgCells (ackSg h ps)),.slice (some ⟨ew1.heap.size, 0, none⟩) 1 1,.slice (some ⟨eb10, 0, none⟩) (ne + 1) ec11,u196,u197,u198] ?_
      go_upto_region 41 with (fail)
      refine vR ?_
      refine vV (.pointer (some ⟨w.heap.size, 36, none⟩)) ?_
      refine sC (cnCells { h with owe := false }) A 36 (.bool false) (cn_size _) ?_
      intro ew12 et13 eB14
      clear A
      replace Z := Z.touch et13 (by omega)
      replace eL7 := eL7.touch et13 (by omega)
      replace G := since_touch G et13 (by omega)
      have et13_s := et13.size
      refine vE #[.agg (cnCells c),.int .i64 now,.pointer (some ⟨w.heap.size, 0, none⟩),U,.pointer (some ⟨w.heap.size + 1, 0, none⟩),.slice none 0 0,.slice (some ⟨eb10, 0, none⟩) (ne + 1) ec11,u7,u8,u9,u10,u11,u12,u13,u14,u15,u16,u17,u18,u19,u20,u21,u22,u23,u24,u25,u26,u27,u28,u29,u30,u31,u32,u33,u34,u35,u36,u37,u38,u39,u40,u41,u42,u43,u44,u45,u46,u47,u48,u49,u50,u51,u52,u53,u54,u55,u56,u57,u58,u59,u60,u61,u62,u63,u64,u65,u66,u67,u68,u69,u70,u71,u72,u73,u74,u75,u76,u77,u78,u79,u80,u81,u82,u83,u84,u85,u86,u87,u88,u89,u90,u91,u92,u93,u94,u95,u96,u97,u98,u99,u100,u101,u102,u103,u104,u105,u106,u107,u108,u109,u110,u111,u112,u113,u114,u115,u116,u117,u118,u119,u120,u121,u122,u123,u124,u125,u126,u127,u128,u129,u130,u131,u132,u133,u134,u135,u136,u137,u138,u139,u140,u141,u142,u143,u144,u145,u146,u147,u148,u149,u150,u151,u152,u153,u154,u155,u156,u157,u158,u159,u160,u161,u162,u163,u164,u165,u166,u167,u168,u169,u170,u171,u172,u173,u174,u175,u176,u177,u178,u179,u180,u181,u182,u183,u184,u185,u186,u187,u188,u189,.bool true,.slice (some ⟨ge, 0, none⟩) ne ce,.agg (cnCells h),.agg (sgCells (ackSg h ps)),.slice (some ⟨ew1.heap.size, 0, none⟩) 1 1,.slice (some ⟨eb10, 0, none⟩) (ne + 1) ec11,.pointer (some ⟨w.heap.size, 36, none⟩),u197,u198] ?_
      go_upto_region 42 with (fail)
      refine vR ?_
      refine vB cn_big eB14 (cn_size _) ?_
      refine vV (.slice (some ⟨eb10, 0, none⟩) (ne + 1) ec11) ?_
      refine sB (cnCells { h with owe := false }) cn_big Z (cn_size _) (cn_size _) (cn_one _) ?_
      intro ew15 et16 eB17
      clear Z
      replace eB14 := eB14.touch et16 (by omega)
      replace eL7 := eL7.touch et16 (by omega)
      replace G := since_touch G et16 (by omega)
      have et16_s := et16.size
      refine vV (.slice (some ⟨eb10, 0, none⟩) (ne + 1) ec11) ?_
      refine vE #[.agg (cnCells c),.int .i64 now,.pointer (some ⟨w.heap.size, 0, none⟩),U,.pointer (some ⟨w.heap.size + 1, 0, none⟩),.slice (some ⟨eb10, 0, none⟩) (ne + 1) ec11,.slice (some ⟨eb10, 0, none⟩) (ne + 1) ec11,u7,u8,u9,u10,u11,u12,u13,u14,u15,u16,u17,u18,u19,u20,u21,u22,u23,u24,u25,u26,u27,u28,u29,u30,u31,u32,u33,u34,u35,u36,u37,u38,u39,u40,u41,u42,u43,u44,u45,u46,u47,u48,u49,u50,u51,u52,u53,u54,u55,u56,u57,u58,u59,u60,u61,u62,u63,u64,u65,u66,u67,u68,u69,u70,u71,u72,u73,u74,u75,u76,u77,u78,u79,u80,u81,u82,u83,u84,u85,u86,u87,u88,u89,u90,u91,u92,u93,u94,u95,u96,u97,u98,u99,u100,u101,u102,u103,u104,u105,u106,u107,u108,u109,u110,u111,u112,u113,u114,u115,u116,u117,u118,u119,u120,u121,u122,u123,u124,u125,u126,u127,u128,u129,u130,u131,u132,u133,u134,u135,u136,u137,u138,u139,u140,u141,u142,u143,u144,u145,u146,u147,u148,u149,u150,u151,u152,u153,u154,u155,u156,u157,u158,u159,u160,u161,u162,u163,u164,u165,u166,u167,u168,u169,u170,u171,u172,u173,u174,u175,u176,u177,u178,u179,u180,u181,u182,u183,u184,u185,u186,u187,u188,u189,.bool true,.slice (some ⟨ge, 0, none⟩) ne ce,.agg (cnCells h),.agg (sgCells (ackSg h ps)),.slice (some ⟨ew1.heap.size, 0, none⟩) 1 1,.slice (some ⟨eb10, 0, none⟩) (ne + 1) ec11,.pointer (some ⟨w.heap.size, 36, none⟩),.agg (cnCells { h with owe := false }),.slice (some ⟨eb10, 0, none⟩) (ne + 1) ec11] ?_
      go_wp2_with (fail)
      refine bodyPost_ret (results_cn2 (t := 4) (u := 5) rfl _ rfl eB17) rfl ⟨eb10, (ne + 1), ec11, ?_, ?_, G⟩
      · rw [hall.out]
        unfold owe2
        rw [← hob.out]
        rfl
      · rw [hall.out]
        unfold owe2
        rw [← hob.out]
        exact eL7
end Go.Proofs.YtfenlfijfjcdbaaGreat

namespace Go.Proofs.YtfenlfijfjcdbaaGreat
open Go.ChangeShapes Go.WideShapes Go.ChangeAt Go.RowKit
set_option linter.unusedVariables false
set_option maxRecDepth 10000

set_option maxRecDepth 20000 in
set_option maxHeartbeats 16000000 in
theorem tail37 (c e : Cn) (ps : List (Int × ByteArray)) (now : Int) (SV : Cn × List Sg) (w x3 : World) (ge ne ce : Nat) (ye : List Sg) (u7 u8 u9 u10 u11 u12 u13 u14 u15 u16 u17 u18 u19 u20 u21 u22 u23 u24 u25 u26 u27 u28 u29 u30 u31 u32 u33 u34 u35 u36 u37 u38 u39 u40 u41 u42 u43 u44 u45 u46 u47 u48 u49 u50 u51 u52 u53 u54 u55 u56 u57 u58 u59 u60 u61 u62 u63 u64 u65 u66 u67 u68 u69 u70 u71 u72 u73 u74 u75 u76 u77 u78 u79 u80 u81 u82 u83 u84 u85 u86 u87 u88 u89 u90 u91 u92 u93 u94 u95 u96 u97 u98 u99 u100 u101 u102 u103 u104 u105 u106 u107 u108 u109 u110 u111 u112 u113 u114 u115 u116 u117 u118 u119 u120 u121 u122 u123 u124 u125 u126 u127 u128 u129 u130 u131 u132 u133 u134 u135 u136 u137 u138 u139 u140 u141 u142 u143 u144 u145 u146 u147 u148 u149 u150 u151 u152 u153 u154 u155 u156 u157 u158 u159 u160 u161 u162 u163 u164 u165 u166 u167 u168 u169 u170 u171 u172 u173 u174 u175 u176 u177 u178 u179 u180 u181 u182 u183 u184 u185 u186 u187 u188 u189 u190 u191 u192 u193 u194 u195 u196 u197 u198 : Value) (ms : MayS c ps) (h0 : 0 ≤ now) (h1 : now ≤ 1000000000) (R : Rd shP w c.pa c.pn ps) (A : Blk w.heap.size x3 (cnCells e)) (Z : Blk (w.heap.size + 1) x3 (cnCells cnZero)) (L : Held shG x3 w.heap.size ge ne ce ye) (G : Since w x3) (hge : w.heap.size + 1 < ge) (hnb3 : (ne : Int) ≤ 100003) (se : Stay c e) (hall : Hid (SV = owe2 ps (prbC e now, ye))) :
    Code.wp Tryz.prog (tailOf 4 (Tryz.f29.body.getD .skip)) (bodyPost Tryz.prog Tryz.f29 (fun e w' => ∃ g n cap, e = .returned (.tuple #[.agg (cnCells SV.1), .slice (some ⟨g, 0, none⟩) n cap]) ∧ Held shG w' w.heap.size g n cap SV.2 ∧ Since w w')) { tmps := #[.agg (cnCells c), .int .i64 now, .pointer (some ⟨w.heap.size, 0, none⟩), undef, .pointer (some ⟨w.heap.size + 1, 0, none⟩), .slice none 0 0, .slice (some ⟨ge, 0, none⟩) ne ce, u7, u8, u9, u10, u11, u12, u13, u14, u15, u16, u17, u18, u19, u20, u21, u22, u23, u24, u25, u26, u27, u28, u29, u30, u31, u32, u33, u34, u35, u36, u37, u38, u39, u40, u41, u42, u43, u44, u45, u46, u47, u48, u49, u50, u51, u52, u53, u54, u55, u56, u57, u58, u59, u60, u61, u62, u63, u64, u65, u66, u67, u68, u69, u70, u71, u72, u73, u74, u75, u76, u77, u78, u79, u80, u81, u82, u83, u84, u85, u86, u87, u88, u89, u90, u91, u92, u93, u94, u95, u96, u97, u98, u99, u100, u101, u102, u103, u104, u105, u106, u107, u108, u109, u110, u111, u112, u113, u114, u115, u116, u117, u118, u119, u120, u121, u122, u123, u124, u125, u126, u127, u128, u129, u130, u131, u132, u133, u134, u135, u136, u137, u138, u139, u140, u141, u142, u143, u144, u145, u146, u147, u148, u149, u150, u151, u152, u153, u154, u155, u156, u157, u158, u159, u160, u161, u162, u163, u164, u165, u166, u167, u168, u169, u170, u171, u172, u173, u174, u175, u176, u177, u178, u179, u180, u181, u182, u183, u184, u185, u186, u187, u188, u189, u190, u191, u192, u193, u194, u195, u196, u197, u198], defers := [] } x3 := by
    conv => arg 2; whnf
    conv => arg 4; zeta
    have sd := se
    have hZ_x3 := Z.lt
    have hL_x3 := L.lt
    have hG_x3 := G.size
    have hd_od : e.oD.size ≤ 1048576 := by rw [sd.oD]; exact ms.hod
    have hd_gd : Good e.iN e.iD e.iR e.pn ps := by rw [sd.iN, sd.iD, sd.iR, sd.pn]; exact ms.gd
    have hd_R : Rd shP w e.pa e.pn ps := by rw [sd.pa, sd.pn]; exact R
    obtain ⟨sb, hsb⟩ : ∃ q, Hid (q = sendsB e.st) := ⟨_, rfl⟩
    have hS := fun wx => specSends e.st wx
    rw [← hsb.out] at hS
    obtain ⟨lf, hlf⟩ : ∃ q, Hid (q = leftC e) := ⟨_, rfl⟩
    have hLf := fun wx => specLeft e sd.w_nxt hd_od wx
    rw [← hlf.out] at hLf
    obtain ⟨pb, hpb⟩ : ∃ q, Hid (q = prbB e) := ⟨_, rfl⟩
    have hff := hpb.out
    unfold prbB at hff
    rw [← hsb.out, ← hlf.out] at hff
    replace hff : Hid _ := hff
    go_upto_region 37 with (fail)
    go_cut [172] (fun v wx => v = .bool pb ∧ Blk w.heap.size wx (cnCells e) ∧ Blk (w.heap.size + 1) wx (cnCells cnZero) ∧ Held shG wx w.heap.size ge ne ce ye ∧ Since w wx)
    case first =>
      cases sb
      case false =>
        refine vR ?_
        refine vV (.pointer (some ⟨w.heap.size, 0, none⟩)) ?_
        refine vD (.int .i64 e.st) (A.cell 0) ?_
        refine vC (hS _) ?_
        rintro _ _ ⟨rfl, rfl⟩
        refine ⟨_, rfl, ?_⟩
        refine vV (.bool false) ?_
        refine vS ?_
        refine vS ?_
        refine vS ?_
        refine vV (.bool false) ?_
        refine vV (.bool false) ?_
        refine vS ?_
        refine vS ?_
        refine vS ?_
        refine vV (.bool false) ?_
        refine vV (.bool false) ?_
        refine vS ?_
        refine vS ?_
        refine vS ?_
        refine vS ?_
        refine vS ?_
        refine vV (.bool false) ?_
        refine vV (.bool false) ?_
        refine vS ?_
        refine vS ?_
        refine vS ?_
        refine vV (.bool false) ?_
        refine vE #[.agg (cnCells c),.int .i64 now,.pointer (some ⟨w.heap.size, 0, none⟩),U,.pointer (some ⟨w.heap.size + 1, 0, none⟩),.slice none 0 0,.slice (some ⟨ge, 0, none⟩) ne ce,u7,u8,u9,u10,u11,u12,u13,u14,u15,u16,u17,u18,u19,u20,u21,u22,u23,u24,u25,u26,u27,u28,u29,u30,u31,u32,u33,u34,u35,u36,u37,u38,u39,u40,u41,u42,u43,u44,u45,u46,u47,u48,u49,u50,u51,u52,u53,u54,u55,u56,u57,u58,u59,u60,u61,u62,u63,u64,u65,u66,u67,u68,u69,u70,u71,u72,u73,u74,u75,u76,u77,u78,u79,u80,u81,u82,u83,u84,u85,u86,u87,u88,u89,u90,u91,u92,u93,u94,u95,u96,u97,u98,u99,u100,u101,u102,u103,u104,u105,u106,u107,u108,u109,u110,u111,u112,u113,u114,u115,u116,u117,u118,u119,u120,u121,u122,u123,u124,u125,u126,u127,u128,u129,u130,u131,u132,u133,u134,u135,u136,u137,u138,u139,u140,u141,u142,u143,u144,u145,u146,u147,.pointer (some ⟨w.heap.size, 0, none⟩),.int .i64 e.st,.bool false,.bool false,U,U,U,.bool false,.bool false,U,U,U,.bool false,.bool false,U,U,U,U,U,.bool false,.bool false,U,U,U,.bool false,u173,u174,u175,u176,u177,u178,u179,u180,u181,u182,u183,u184,u185,u186,u187,u188,u189,u190,u191,u192,u193,u194,u195,u196,u197,u198] ?_
        have e9 : Hid (pb = false) := hff.out.trans rfl
        go_wp2_with (fail)
        go_meet
        case rel => exact ⟨by rw [e9.out], A, Z, L, G⟩
      case true =>
      by_cases hw0 : e.wnd = 0
      case neg =>
        have m0 : Hid ((e.wnd == 0) = false) := by show (e.wnd == 0) = false; simpa using hw0
        replace hw0 : Hid _ := hw0
        refine vR ?_
        refine vV (.pointer (some ⟨w.heap.size, 0, none⟩)) ?_
        refine vD (.int .i64 e.st) (A.cell 0) ?_
        refine vC (hS _) ?_
        rintro _ _ ⟨rfl, rfl⟩
        refine ⟨_, rfl, ?_⟩
        refine vV (.bool true) ?_
        refine vV (.pointer (some ⟨w.heap.size, 5, none⟩)) ?_
        refine vD (.int .i64 e.wnd) (A.cell 5) ?_
        refine vV (.bool false) ?_ (hrun := by rw [show false = (e.wnd == 0) from m0.out.symm]; kernel_rfl)
        refine vV (.bool false) ?_
        refine vV (.bool false) ?_
        refine vS ?_
        refine vS ?_
        refine vS ?_
        refine vV (.bool false) ?_
        refine vV (.bool false) ?_
        refine vS ?_
        refine vS ?_
        refine vS ?_
        refine vS ?_
        refine vS ?_
        refine vV (.bool false) ?_
        refine vV (.bool false) ?_
        refine vS ?_
        refine vS ?_
        refine vS ?_
        refine vV (.bool false) ?_
        refine vE #[.agg (cnCells c),.int .i64 now,.pointer (some ⟨w.heap.size, 0, none⟩),U,.pointer (some ⟨w.heap.size + 1, 0, none⟩),.slice none 0 0,.slice (some ⟨ge, 0, none⟩) ne ce,u7,u8,u9,u10,u11,u12,u13,u14,u15,u16,u17,u18,u19,u20,u21,u22,u23,u24,u25,u26,u27,u28,u29,u30,u31,u32,u33,u34,u35,u36,u37,u38,u39,u40,u41,u42,u43,u44,u45,u46,u47,u48,u49,u50,u51,u52,u53,u54,u55,u56,u57,u58,u59,u60,u61,u62,u63,u64,u65,u66,u67,u68,u69,u70,u71,u72,u73,u74,u75,u76,u77,u78,u79,u80,u81,u82,u83,u84,u85,u86,u87,u88,u89,u90,u91,u92,u93,u94,u95,u96,u97,u98,u99,u100,u101,u102,u103,u104,u105,u106,u107,u108,u109,u110,u111,u112,u113,u114,u115,u116,u117,u118,u119,u120,u121,u122,u123,u124,u125,u126,u127,u128,u129,u130,u131,u132,u133,u134,u135,u136,u137,u138,u139,u140,u141,u142,u143,u144,u145,u146,u147,.pointer (some ⟨w.heap.size, 0, none⟩),.int .i64 e.st,.bool true,.bool true,.pointer (some ⟨w.heap.size, 5, none⟩),.int .i64 e.wnd,.bool false,.bool false,.bool false,U,U,U,.bool false,.bool false,U,U,U,U,U,.bool false,.bool false,U,U,U,.bool false,u173,u174,u175,u176,u177,u178,u179,u180,u181,u182,u183,u184,u185,u186,u187,u188,u189,u190,u191,u192,u193,u194,u195,u196,u197,u198] ?_
        have e9 : Hid (pb = false) := hff.out.trans (by rw [decide_eq_false hw0.out]; rfl)
        go_wp2_with (fail)
        go_meet
        case rel => exact ⟨by rw [e9.out], A, Z, L, G⟩
      case pos =>
      replace hw0 : Hid _ := hw0
      by_cases hl0 : 0 < lf
      all_goals replace hl0 : Hid _ := hl0
      case neg =>
        have ml : Hid (decide (0 < lf) = false) := decide_eq_false hl0.out
        refine vR ?_
        refine vV (.pointer (some ⟨w.heap.size, 0, none⟩)) ?_
        refine vD (.int .i64 e.st) (A.cell 0) ?_
        refine vC (hS _) ?_
        rintro _ _ ⟨rfl, rfl⟩
        refine ⟨_, rfl, ?_⟩
        refine vV (.bool true) ?_
        refine vV (.pointer (some ⟨w.heap.size, 5, none⟩)) ?_
        refine vD (.int .i64 0) ((A.cell 5).trans (by show some (.int .i64 e.wnd : Value) = some (.int .i64 0 : Value); rw [hw0.out])) ?_
        refine vV (.bool true) ?_
        refine vV (.bool true) ?_
        refine vV (.bool true) ?_
        refine vB cn_big A (cn_size _) ?_
        refine vK (hLf _) ?_
        intro aw1 ag2
        replace A := A.since ag2
        replace Z := Z.since ag2
        replace L := L.since ag2
        replace G := G.trans ag2
        have ag2_s := ag2.size
        refine vV (.bool false) ?_ (hrun := by rw [show false = decide (0 < lf) from ml.out.symm]; kernel_rfl)
        refine vV (.bool false) ?_
        refine vV (.bool false) ?_
        refine vS ?_
        refine vS ?_
        refine vS ?_
        refine vS ?_
        refine vS ?_
        refine vV (.bool false) ?_
        refine vV (.bool false) ?_
        refine vS ?_
        refine vS ?_
        refine vS ?_
        refine vV (.bool false) ?_
        refine vE #[.agg (cnCells c),.int .i64 now,.pointer (some ⟨w.heap.size, 0, none⟩),U,.pointer (some ⟨w.heap.size + 1, 0, none⟩),.slice none 0 0,.slice (some ⟨ge, 0, none⟩) ne ce,u7,u8,u9,u10,u11,u12,u13,u14,u15,u16,u17,u18,u19,u20,u21,u22,u23,u24,u25,u26,u27,u28,u29,u30,u31,u32,u33,u34,u35,u36,u37,u38,u39,u40,u41,u42,u43,u44,u45,u46,u47,u48,u49,u50,u51,u52,u53,u54,u55,u56,u57,u58,u59,u60,u61,u62,u63,u64,u65,u66,u67,u68,u69,u70,u71,u72,u73,u74,u75,u76,u77,u78,u79,u80,u81,u82,u83,u84,u85,u86,u87,u88,u89,u90,u91,u92,u93,u94,u95,u96,u97,u98,u99,u100,u101,u102,u103,u104,u105,u106,u107,u108,u109,u110,u111,u112,u113,u114,u115,u116,u117,u118,u119,u120,u121,u122,u123,u124,u125,u126,u127,u128,u129,u130,u131,u132,u133,u134,u135,u136,u137,u138,u139,u140,u141,u142,u143,u144,u145,u146,u147,.pointer (some ⟨w.heap.size, 0, none⟩),.int .i64 e.st,.bool true,.bool true,.pointer (some ⟨w.heap.size, 5, none⟩),.int .i64 0,.bool true,.bool true,.bool true,.agg (cnCells e),.int .i64 lf,.bool false,.bool false,.bool false,U,U,U,U,U,.bool false,.bool false,U,U,U,.bool false,u173,u174,u175,u176,u177,u178,u179,u180,u181,u182,u183,u184,u185,u186,u187,u188,u189,u190,u191,u192,u193,u194,u195,u196,u197,u198] ?_
        have e9 : Hid (pb = false) := hff.out.trans (by rw [decide_eq_true hw0.out, decide_eq_false hl0.out]; rfl)
        go_wp2_with (fail)
        go_meet
        case rel => exact ⟨by rw [e9.out], A, Z, L, G⟩
      case pos =>
      have ml : Hid (decide (0 < lf) = true) := decide_eq_true hl0.out
      by_cases hun : e.una = e.nxt
      case neg =>
        have m1 : Hid ((e.una == e.nxt) = false) := by show (e.una == e.nxt) = false; simpa using hun
        replace hun : Hid _ := hun
        refine vR ?_
        refine vV (.pointer (some ⟨w.heap.size, 0, none⟩)) ?_
        refine vD (.int .i64 e.st) (A.cell 0) ?_
        refine vC (hS _) ?_
        rintro _ _ ⟨rfl, rfl⟩
        refine ⟨_, rfl, ?_⟩
        refine vV (.bool true) ?_
        refine vV (.pointer (some ⟨w.heap.size, 5, none⟩)) ?_
        refine vD (.int .i64 0) ((A.cell 5).trans (by show some (.int .i64 e.wnd : Value) = some (.int .i64 0 : Value); rw [hw0.out])) ?_
        refine vV (.bool true) ?_
        refine vV (.bool true) ?_
        refine vV (.bool true) ?_
        refine vB cn_big A (cn_size _) ?_
        refine vK (hLf _) ?_
        intro aw1 ag2
        replace A := A.since ag2
        replace Z := Z.since ag2
        replace L := L.since ag2
        replace G := G.trans ag2
        have ag2_s := ag2.size
        refine vV (.bool true) ?_ (hrun := by rw [show true = decide (0 < lf) from ml.out.symm]; kernel_rfl)
        refine vV (.bool true) ?_
        refine vV (.bool true) ?_
        refine vV (.pointer (some ⟨w.heap.size, 2, none⟩)) ?_
        refine vD (.int .u32 e.una) (A.cell 2) ?_
        refine vV (.pointer (some ⟨w.heap.size, 3, none⟩)) ?_
        refine vD (.int .u32 e.nxt) (A.cell 3) ?_
        refine vV (.bool false) ?_ (hrun := by rw [show false = (e.una == e.nxt) from m1.out.symm]; kernel_rfl)
        refine vV (.bool false) ?_
        refine vV (.bool false) ?_
        refine vS ?_
        refine vS ?_
        refine vS ?_
        refine vV (.bool false) ?_
        refine vE #[.agg (cnCells c),.int .i64 now,.pointer (some ⟨w.heap.size, 0, none⟩),U,.pointer (some ⟨w.heap.size + 1, 0, none⟩),.slice none 0 0,.slice (some ⟨ge, 0, none⟩) ne ce,u7,u8,u9,u10,u11,u12,u13,u14,u15,u16,u17,u18,u19,u20,u21,u22,u23,u24,u25,u26,u27,u28,u29,u30,u31,u32,u33,u34,u35,u36,u37,u38,u39,u40,u41,u42,u43,u44,u45,u46,u47,u48,u49,u50,u51,u52,u53,u54,u55,u56,u57,u58,u59,u60,u61,u62,u63,u64,u65,u66,u67,u68,u69,u70,u71,u72,u73,u74,u75,u76,u77,u78,u79,u80,u81,u82,u83,u84,u85,u86,u87,u88,u89,u90,u91,u92,u93,u94,u95,u96,u97,u98,u99,u100,u101,u102,u103,u104,u105,u106,u107,u108,u109,u110,u111,u112,u113,u114,u115,u116,u117,u118,u119,u120,u121,u122,u123,u124,u125,u126,u127,u128,u129,u130,u131,u132,u133,u134,u135,u136,u137,u138,u139,u140,u141,u142,u143,u144,u145,u146,u147,.pointer (some ⟨w.heap.size, 0, none⟩),.int .i64 e.st,.bool true,.bool true,.pointer (some ⟨w.heap.size, 5, none⟩),.int .i64 0,.bool true,.bool true,.bool true,.agg (cnCells e),.int .i64 lf,.bool true,.bool true,.bool true,.pointer (some ⟨w.heap.size, 2, none⟩),.int .u32 e.una,.pointer (some ⟨w.heap.size, 3, none⟩),.int .u32 e.nxt,.bool false,.bool false,.bool false,U,U,U,.bool false,u173,u174,u175,u176,u177,u178,u179,u180,u181,u182,u183,u184,u185,u186,u187,u188,u189,u190,u191,u192,u193,u194,u195,u196,u197,u198] ?_
        have e9 : Hid (pb = false) := hff.out.trans (by rw [decide_eq_true hw0.out, decide_eq_true hl0.out, decide_eq_false hun.out]; rfl)
        go_wp2_with (fail)
        go_meet
        case rel => exact ⟨by rw [e9.out], A, Z, L, G⟩
      case pos =>
      have m1 : Hid ((e.una == e.nxt) = true) := by show (e.una == e.nxt) = true; simpa using hun
      replace hun : Hid _ := hun
      by_cases hp0 : e.prb = 0
      case pos =>
        have m2 : Hid ((e.prb == 0) = true) := by show (e.prb == 0) = true; simpa using hp0
        replace hp0 : Hid _ := hp0
        refine vR ?_
        refine vV (.pointer (some ⟨w.heap.size, 0, none⟩)) ?_
        refine vD (.int .i64 e.st) (A.cell 0) ?_
        refine vC (hS _) ?_
        rintro _ _ ⟨rfl, rfl⟩
        refine ⟨_, rfl, ?_⟩
        refine vV (.bool true) ?_
        refine vV (.pointer (some ⟨w.heap.size, 5, none⟩)) ?_
        refine vD (.int .i64 0) ((A.cell 5).trans (by show some (.int .i64 e.wnd : Value) = some (.int .i64 0 : Value); rw [hw0.out])) ?_
        refine vV (.bool true) ?_
        refine vV (.bool true) ?_
        refine vV (.bool true) ?_
        refine vB cn_big A (cn_size _) ?_
        refine vK (hLf _) ?_
        intro aw1 ag2
        replace A := A.since ag2
        replace Z := Z.since ag2
        replace L := L.since ag2
        replace G := G.trans ag2
        have ag2_s := ag2.size
        refine vV (.bool true) ?_ (hrun := by rw [show true = decide (0 < lf) from ml.out.symm]; kernel_rfl)
        refine vV (.bool true) ?_
        refine vV (.bool true) ?_
        refine vV (.pointer (some ⟨w.heap.size, 2, none⟩)) ?_
        refine vD (.int .u32 e.una) (A.cell 2) ?_
        refine vV (.pointer (some ⟨w.heap.size, 3, none⟩)) ?_
        refine vD (.int .u32 e.nxt) (A.cell 3) ?_
        refine vV (.bool true) ?_ (hrun := by rw [show true = (e.una == e.nxt) from m1.out.symm]; kernel_rfl)
        refine vV (.bool true) ?_
        refine vV (.bool true) ?_
        refine vV (.pointer (some ⟨w.heap.size, 32, none⟩)) ?_
        refine vD (.int .i64 e.prb) (A.cell 32) ?_
        refine vV (.bool true) ?_ (hrun := by rw [show true = (e.prb == 0) from m2.out.symm]; kernel_rfl)
        refine vV (.bool true) ?_
        refine vE #[.agg (cnCells c),.int .i64 now,.pointer (some ⟨w.heap.size, 0, none⟩),U,.pointer (some ⟨w.heap.size + 1, 0, none⟩),.slice none 0 0,.slice (some ⟨ge, 0, none⟩) ne ce,u7,u8,u9,u10,u11,u12,u13,u14,u15,u16,u17,u18,u19,u20,u21,u22,u23,u24,u25,u26,u27,u28,u29,u30,u31,u32,u33,u34,u35,u36,u37,u38,u39,u40,u41,u42,u43,u44,u45,u46,u47,u48,u49,u50,u51,u52,u53,u54,u55,u56,u57,u58,u59,u60,u61,u62,u63,u64,u65,u66,u67,u68,u69,u70,u71,u72,u73,u74,u75,u76,u77,u78,u79,u80,u81,u82,u83,u84,u85,u86,u87,u88,u89,u90,u91,u92,u93,u94,u95,u96,u97,u98,u99,u100,u101,u102,u103,u104,u105,u106,u107,u108,u109,u110,u111,u112,u113,u114,u115,u116,u117,u118,u119,u120,u121,u122,u123,u124,u125,u126,u127,u128,u129,u130,u131,u132,u133,u134,u135,u136,u137,u138,u139,u140,u141,u142,u143,u144,u145,u146,u147,.pointer (some ⟨w.heap.size, 0, none⟩),.int .i64 e.st,.bool true,.bool true,.pointer (some ⟨w.heap.size, 5, none⟩),.int .i64 0,.bool true,.bool true,.bool true,.agg (cnCells e),.int .i64 lf,.bool true,.bool true,.bool true,.pointer (some ⟨w.heap.size, 2, none⟩),.int .u32 e.una,.pointer (some ⟨w.heap.size, 3, none⟩),.int .u32 e.nxt,.bool true,.bool true,.bool true,.pointer (some ⟨w.heap.size, 32, none⟩),.int .i64 e.prb,.bool true,.bool true,u173,u174,u175,u176,u177,u178,u179,u180,u181,u182,u183,u184,u185,u186,u187,u188,u189,u190,u191,u192,u193,u194,u195,u196,u197,u198] ?_
        have e9 : Hid (pb = true) := hff.out.trans (by rw [decide_eq_true hw0.out, decide_eq_true hl0.out, decide_eq_true hun.out, decide_eq_true hp0.out]; rfl)
        go_wp2_with (fail)
        go_meet
        case rel => exact ⟨by rw [e9.out], A, Z, L, G⟩
      case neg =>
        have m2 : Hid ((e.prb == 0) = false) := by show (e.prb == 0) = false; simpa using hp0
        replace hp0 : Hid _ := hp0
        refine vR ?_
        refine vV (.pointer (some ⟨w.heap.size, 0, none⟩)) ?_
        refine vD (.int .i64 e.st) (A.cell 0) ?_
        refine vC (hS _) ?_
        rintro _ _ ⟨rfl, rfl⟩
        refine ⟨_, rfl, ?_⟩
        refine vV (.bool true) ?_
        refine vV (.pointer (some ⟨w.heap.size, 5, none⟩)) ?_
        refine vD (.int .i64 0) ((A.cell 5).trans (by show some (.int .i64 e.wnd : Value) = some (.int .i64 0 : Value); rw [hw0.out])) ?_
        refine vV (.bool true) ?_
        refine vV (.bool true) ?_
        refine vV (.bool true) ?_
        refine vB cn_big A (cn_size _) ?_
        refine vK (hLf _) ?_
        intro aw1 ag2
        replace A := A.since ag2
        replace Z := Z.since ag2
        replace L := L.since ag2
        replace G := G.trans ag2
        have ag2_s := ag2.size
        refine vV (.bool true) ?_ (hrun := by rw [show true = decide (0 < lf) from ml.out.symm]; kernel_rfl)
        refine vV (.bool true) ?_
        refine vV (.bool true) ?_
        refine vV (.pointer (some ⟨w.heap.size, 2, none⟩)) ?_
        refine vD (.int .u32 e.una) (A.cell 2) ?_
        refine vV (.pointer (some ⟨w.heap.size, 3, none⟩)) ?_
        refine vD (.int .u32 e.nxt) (A.cell 3) ?_
        refine vV (.bool true) ?_ (hrun := by rw [show true = (e.una == e.nxt) from m1.out.symm]; kernel_rfl)
        refine vV (.bool true) ?_
        refine vV (.bool true) ?_
        refine vV (.pointer (some ⟨w.heap.size, 32, none⟩)) ?_
        refine vD (.int .i64 e.prb) (A.cell 32) ?_
        refine vV (.bool false) ?_ (hrun := by rw [show false = (e.prb == 0) from m2.out.symm]; kernel_rfl)
        refine vV (.bool false) ?_
        refine vE #[.agg (cnCells c),.int .i64 now,.pointer (some ⟨w.heap.size, 0, none⟩),U,.pointer (some ⟨w.heap.size + 1, 0, none⟩),.slice none 0 0,.slice (some ⟨ge, 0, none⟩) ne ce,u7,u8,u9,u10,u11,u12,u13,u14,u15,u16,u17,u18,u19,u20,u21,u22,u23,u24,u25,u26,u27,u28,u29,u30,u31,u32,u33,u34,u35,u36,u37,u38,u39,u40,u41,u42,u43,u44,u45,u46,u47,u48,u49,u50,u51,u52,u53,u54,u55,u56,u57,u58,u59,u60,u61,u62,u63,u64,u65,u66,u67,u68,u69,u70,u71,u72,u73,u74,u75,u76,u77,u78,u79,u80,u81,u82,u83,u84,u85,u86,u87,u88,u89,u90,u91,u92,u93,u94,u95,u96,u97,u98,u99,u100,u101,u102,u103,u104,u105,u106,u107,u108,u109,u110,u111,u112,u113,u114,u115,u116,u117,u118,u119,u120,u121,u122,u123,u124,u125,u126,u127,u128,u129,u130,u131,u132,u133,u134,u135,u136,u137,u138,u139,u140,u141,u142,u143,u144,u145,u146,u147,.pointer (some ⟨w.heap.size, 0, none⟩),.int .i64 e.st,.bool true,.bool true,.pointer (some ⟨w.heap.size, 5, none⟩),.int .i64 0,.bool true,.bool true,.bool true,.agg (cnCells e),.int .i64 lf,.bool true,.bool true,.bool true,.pointer (some ⟨w.heap.size, 2, none⟩),.int .u32 e.una,.pointer (some ⟨w.heap.size, 3, none⟩),.int .u32 e.nxt,.bool true,.bool true,.bool true,.pointer (some ⟨w.heap.size, 32, none⟩),.int .i64 e.prb,.bool false,.bool false,u173,u174,u175,u176,u177,u178,u179,u180,u181,u182,u183,u184,u185,u186,u187,u188,u189,u190,u191,u192,u193,u194,u195,u196,u197,u198] ?_
        have e9 : Hid (pb = false) := hff.out.trans (by rw [decide_eq_true hw0.out, decide_eq_true hl0.out, decide_eq_true hun.out, decide_eq_false hp0.out]; rfl)
        go_wp2_with (fail)
        go_meet
        case rel => exact ⟨by rw [e9.out], A, Z, L, G⟩
    case rest =>
    clear A Z L G
    obtain ⟨rfl, A, Z, L, G⟩ := hcut
    generalize wc = x4 at A Z L G ⊢
    have hZ_x4 := Z.lt
    have hL_x4 := L.lt
    have hG_x4 := G.size
    go_upto_if 172 with (fail)
    go_cut [] (fun wx => Blk w.heap.size wx (cnCells (prbC e now)) ∧ Blk (w.heap.size + 1) wx (cnCells cnZero) ∧ Held shG wx w.heap.size ge ne ce ye ∧ Since w wx)
    case first =>
      cases pb
      case false =>
        have e9 : Hid (prbC e now = e) := by
          show _ = _
          unfold prbC
          rw [← hpb.out]
          rfl
        go_wp2_with (fail)
        go_meet
        case rel => exact ⟨by rw [e9.out]; exact A, Z, L, G⟩
      case true =>
        have hwt := fun wx => specWait e.rA e.rS e.rV e.rD wx
        have hb := wait_in11 e.rA e.rS e.rV e.rD
        unfold rttVal at hwt
        obtain ⟨wt, hwo⟩ : ∃ q, Hid (q = waitOf e.rA e.rS e.rV e.rD) := ⟨_, rfl⟩
        rw [← hwo.out] at hwt hb
        have hs : IntKind.i64.wrap (now + wt) = now + wt := by rw [IntWalk.i64_left]; exact IntWalk.wrap64_in _ ⟨by omega, by omega⟩
        replace hs : Hid _ := hs
        clear hb
        go_upto_region 38 with (fail)
        refine vR ?_
        refine vV (.int .i64 now) ?_
        refine vV (.pointer (some ⟨w.heap.size, 19, none⟩)) ?_
        refine vP pRtt_big A 19 [.bool e.rA, .int .i64 e.rS, .int .i64 e.rV, .int .i64 e.rD] ?_
        refine vK (hwt _) ?_
        intro cw1 cg2
        replace A := A.since cg2
        replace Z := Z.since cg2
        replace L := L.since cg2
        replace G := G.trans cg2
        have cg2_s := cg2.size
        refine vV (.int .i64 (now + wt)) ?_ (hrun := by rw [← hs.out]; kernel_rfl)
        refine vV (.pointer (some ⟨w.heap.size, 32, none⟩)) ?_
        refine sC (cnCells { e with prb := (now + wt) }) A 32 (.int .i64 (now + wt)) (cn_size _) ?_
        intro cw3 ct4 cB5
        clear A
        replace Z := Z.touch ct4 (by omega)
        replace L := L.touch ct4 (by omega)
        replace G := since_touch G ct4 (by omega)
        have ct4_s := ct4.size
        refine vE #[.agg (cnCells c),.int .i64 now,.pointer (some ⟨w.heap.size, 0, none⟩),U,.pointer (some ⟨w.heap.size + 1, 0, none⟩),.slice none 0 0,.slice (some ⟨ge, 0, none⟩) ne ce,u7,u8,u9,u10,u11,u12,u13,u14,u15,u16,u17,u18,u19,u20,u21,u22,u23,u24,u25,u26,u27,u28,u29,u30,u31,u32,u33,u34,u35,u36,u37,u38,u39,u40,u41,u42,u43,u44,u45,u46,u47,u48,u49,u50,u51,u52,u53,u54,u55,u56,u57,u58,u59,u60,u61,u62,u63,u64,u65,u66,u67,u68,u69,u70,u71,u72,u73,u74,u75,u76,u77,u78,u79,u80,u81,u82,u83,u84,u85,u86,u87,u88,u89,u90,u91,u92,u93,u94,u95,u96,u97,u98,u99,u100,u101,u102,u103,u104,u105,u106,u107,u108,u109,u110,u111,u112,u113,u114,u115,u116,u117,u118,u119,u120,u121,u122,u123,u124,u125,u126,u127,u128,u129,u130,u131,u132,u133,u134,u135,u136,u137,u138,u139,u140,u141,u142,u143,u144,u145,u146,u147,u148,u149,u150,u151,u152,u153,u154,u155,u156,u157,u158,u159,u160,u161,u162,u163,u164,u165,u166,u167,u168,u169,u170,u171,.bool true,.int .i64 now,.pointer (some ⟨w.heap.size, 19, none⟩),.agg #[.bool e.rA, .int .i64 e.rS, .int .i64 e.rV, .int .i64 e.rD],.int .i64 wt,.int .i64 (now + wt),.pointer (some ⟨w.heap.size, 32, none⟩),u179,u180,u181,u182,u183,u184,u185,u186,u187,u188,u189,u190,u191,u192,u193,u194,u195,u196,u197,u198] ?_
        have e9 : Hid (prbC e now = { e with prb := (now + wt) }) := by
          show _ = _
          unfold prbC
          rw [← hpb.out, if_pos rfl, ← hwo.out]
        go_wp2_with (fail)
        go_meet
        case rel => exact ⟨by rw [e9.out]; exact cB5, Z, L, G⟩
    case rest =>
    clear A Z L G
    obtain ⟨A, Z, L, G⟩ := hcut
    have ha : Hid (SV = owe2 ps (prbC e now, ye)) := hall
    replace sd := sd.prb now
    refine ‹∀ (a : Act) (w : World), Code.wp Tryz.prog _ _ a w → _› _ _ ?_
    exact Eq.mp (by kernel_rfl) (tail39 c (prbC e now) ps now SV w wc ge ne ce ye u7 u8 u9 u10 u11 u12 u13 u14 u15 u16 u17 u18 u19 u20 u21 u22 u23 u24 u25 u26 u27 u28 u29 u30 u31 u32 u33 u34 u35 u36 u37 u38 u39 u40 u41 u42 u43 u44 u45 u46 u47 u48 u49 u50 u51 u52 u53 u54 u55 u56 u57 u58 u59 u60 u61 u62 u63 u64 u65 u66 u67 u68 u69 u70 u71 u72 u73 u74 u75 u76 u77 u78 u79 u80 u81 u82 u83 u84 u85 u86 u87 u88 u89 u90 u91 u92 u93 u94 u95 u96 u97 u98 u99 u100 u101 u102 u103 u104 u105 u106 u107 u108 u109 u110 u111 u112 u113 u114 u115 u116 u117 u118 u119 u120 u121 u122 u123 u124 u125 u126 u127 u128 u129 u130 u131 u132 u133 u134 u135 u136 u137 u138 u139 u140 u141 u142 u143 u144 u145 u146 u147 u148 u149 u150 u151 u152 u153 u154 u155 u156 u157 u158 u159 u160 u161 u162 u163 u164 u165 u166 u167 u168 u169 u170 u171 u172 u173 u174 u175 u176 u177 u178 u179 u180 u181 u182 u183 u184 u185 u186 u187 u188 u189 u190 u191 u192 u193 u194 u195 u196 u197 u198 A Z L G hge hnb3 (by rw [sd.iN, sd.iD, sd.iR, sd.pn]; exact ms.gd) (by rw [sd.pa, sd.pn]; exact R) ha)
end Go.Proofs.YtfenlfijfjcdbaaGreat
