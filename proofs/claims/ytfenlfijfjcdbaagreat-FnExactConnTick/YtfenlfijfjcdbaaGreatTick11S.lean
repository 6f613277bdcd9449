/-
  What is due at an end, as spec does it: behind the probe.
-/
import Derived.Test.YtfenlfijfjcdbaaGreatM7
import Derived.Test.YtfenlfijfjcdbaaGreatTick11R
import Derived.Test.YtfenlfijfjcdbaaGreatSend11V
import Derived.Test.YtfenlfijfjcdbaaGreatM16
import Derived.Test.YtfenlfijfjcdbaaGreatM3
import Derived.Test.YtfenlfijfjcdbaaGreatM18
import Derived.Deep.DeepCutAuto
namespace Go.Proofs.YtfenlfijfjcdbaaGreat
open Go.ChangeShapes Go.WideShapes Go.ChangeAt Go.RowKit
set_option linter.unusedVariables false
set_option maxRecDepth 10000

theorem empty_of {d : ByteArray} (h : d.size = 0) : d = ByteArray.empty := by
  obtain ⟨⟨l⟩⟩ := d
  have : l = [] := List.length_eq_zero_iff.1 h
  subst this
  rfl

set_option maxRecDepth 20000 in
set_option maxHeartbeats 16000000 in
theorem tick6 (d : Cn) (ps : List (Int × ByteArray)) (now : Int) (SV : Cn × List Sg) (w x : World) (g gl n cl : Nat) (xs : List Sg) (u0 u3 u7 u8 u9 u10 u11 u12 u13 u14 u15 u16 u17 u18 u19 u20 u21 u22 u23 u24 u25 u26 u27 u28 u29 u30 u31 u32 u33 u34 u35 u36 u37 u38 u39 u40 u41 u42 u43 u44 u45 u46 u47 u48 u49 u50 u51 u52 u53 u54 u55 u56 u57 u58 u59 u60 u61 u62 u63 u64 u65 u66 u67 u68 u69 u70 u71 u72 u73 u74 u75 u76 u77 u78 u79 u80 u81 u82 u83 u84 u85 u86 u87 u88 u89 u90 u91 u92 u93 u94 u95 u96 u97 u98 u99 u100 u101 u102 u103 u104 u105 u106 u107 u108 u109 u110 u111 u112 u113 u114 u115 u116 u117 u118 u119 u120 u121 u122 u123 u124 u125 u126 u127 u128 u129 u130 u131 u132 u133 u134 u135 u136 u137 u138 u139 u140 u141 u142 u143 u144 u145 u146 u147 u148 u149 u150 u151 u152 u153 u154 u155 u156 u157 u158 u159 u160 u161 u162 u163 u164 u165 u166 u167 u168 u169 u170 u171 u172 u173 u174 u175 u176 u177 u178 u179 u180 u181 u182 u183 u184 u185 u186 u187 : Value) (h0 : 0 ≤ now) (h1 : now ≤ 1000000000) (ok : TickOk d ps) (pa : d.pa = some ⟨g, 0, none⟩) (A : Blk w.heap.size x (cnCells d)) (Z : Blk (w.heap.size + 1) x (cnCells cnZero)) (L : Held shG x w.heap.size gl n cl xs) (H : Held shP x w.heap.size g d.pn d.pc ps) (G : Since w x) (hgl : w.heap.size + 1 < gl) (hgg : w.heap.size + 1 < g) (hne : gl ≠ g) (hn : n ≤ 1) (hxs : shutB d = false → xs = [] ∧ n = 0 ∧ cl = 0) (hall : Hid (SV = if dueB d.agn now then againX ps now d xs else (d, xs))) :
    Code.wp Tryz.prog (tailOf 6 (Tryz.f5.body.getD .skip)) (bodyPost Tryz.prog Tryz.f5 (fun e w' => ∃ gl n cl, e = .returned (.tuple #[.agg (cnCells SV.1), .slice (some ⟨gl, 0, none⟩) n cl]) ∧ Held shG w' w.heap.size gl n cl SV.2 ∧ Held shP w' w.heap.size g d.pn d.pc ps ∧ Since w w')) { tmps := #[u0, .int .i64 now, .pointer (some ⟨w.heap.size, 0, none⟩), u3, .pointer (some ⟨w.heap.size + 1, 0, none⟩), .slice none 0 0, .slice (some ⟨gl, 0, none⟩) n cl, u7, u8, u9, u10, u11, u12, u13, u14, u15, u16, u17, u18, u19, u20, u21, u22, u23, u24, u25, u26, u27, u28, u29, u30, u31, u32, u33, u34, u35, u36, u37, u38, u39, u40, u41, u42, u43, u44, u45, u46, u47, u48, u49, u50, u51, u52, u53, u54, u55, u56, u57, u58, u59, u60, u61, u62, u63, u64, u65, u66, u67, u68, u69, u70, u71, u72, u73, u74, u75, u76, u77, u78, u79, u80, u81, u82, u83, u84, u85, u86, u87, u88, u89, u90, u91, u92, u93, u94, u95, u96, u97, u98, u99, u100, u101, u102, u103, u104, u105, u106, u107, u108, u109, u110, u111, u112, u113, u114, u115, u116, u117, u118, u119, u120, u121, u122, u123, u124, u125, u126, u127, u128, u129, u130, u131, u132, u133, u134, u135, u136, u137, u138, u139, u140, u141, u142, u143, u144, u145, u146, u147, u148, u149, u150, u151, u152, u153, u154, u155, u156, u157, u158, u159, u160, u161, u162, u163, u164, u165, u166, u167, u168, u169, u170, u171, u172, u173, u174, u175, u176, u177, u178, u179, u180, u181, u182, u183, u184, u185, u186, u187], defers := [] } x := by
    conv => arg 2; whnf
    conv => arg 4; zeta
    have hZ2 := Z.lt
    have hL2 := L.lt
    have hH2 := H.lt
    have hG2 := G.size
    obtain ⟨ba, hba⟩ : ∃ q, Hid (q = dueB d.agn now) := ⟨_, rfl⟩
    obtain ⟨bl, hbl⟩ : ∃ q, Hid (q = decide (d.agn ≤ now)) := ⟨_, rfl⟩
    go_upto_region 16 with (fail)
    by_cases hz0 : d.agn = 0
    case pos =>
      have hz : Hid ((d.agn != 0) = false) := by show (d.agn != 0) = false; simp [hz0]
      clear hz0
      refine vR ?_
      refine vV (.pointer (some ⟨w.heap.size, 31, none⟩)) ?_
      refine vD (.int .i64 d.agn) (A.cell 31) ?_
      refine vV (.bool false) ?_ (hrun := by rw [show false = (d.agn != 0) from hz.out.symm]; kernel_rfl)
      refine vV (.bool false) ?_
      refine vS ?_
      refine vS ?_
      refine vS ?_
      refine vS ?_
      refine vV (.bool false) ?_
      refine vE #[u0,.int .i64 now,.pointer (some ⟨w.heap.size, 0, none⟩),u3,.pointer (some ⟨w.heap.size + 1, 0, none⟩),.slice none 0 0,.slice (some ⟨gl, 0, none⟩) n cl,u7,u8,u9,u10,u11,u12,u13,u14,u15,u16,u17,u18,u19,u20,u21,u22,u23,u24,u25,u26,u27,u28,u29,u30,u31,u32,u33,u34,u35,u36,u37,u38,u39,u40,u41,u42,u43,u44,u45,u46,u47,u48,u49,u50,u51,u52,u53,u54,u55,u56,u57,u58,u59,u60,u61,u62,u63,u64,u65,u66,u67,u68,u69,u70,u71,u72,u73,u74,u75,u76,u77,u78,u79,u80,u81,u82,u83,u84,u85,u86,u87,u88,u89,u90,u91,u92,u93,u94,u95,u96,u97,u98,u99,.pointer (some ⟨w.heap.size, 31, none⟩),.int .i64 d.agn,.bool false,.bool false,U,U,U,U,.bool false,u109,u110,u111,u112,u113,u114,u115,u116,u117,u118,u119,u120,u121,u122,u123,u124,u125,u126,u127,u128,u129,u130,u131,u132,u133,u134,u135,u136,u137,u138,u139,u140,u141,u142,u143,u144,u145,u146,u147,u148,u149,u150,u151,u152,u153,u154,u155,u156,u157,u158,u159,u160,u161,u162,u163,u164,u165,u166,u167,u168,u169,u170,u171,u172,u173,u174,u175,u176,u177,u178,u179,u180,u181,u182,u183,u184,u185,u186,u187] ?_
      have hX : SV = (d, xs) := by
        rw [hall.out, show dueB d.agn now = false by unfold dueB; rw [decide_eq_false (show ¬ d.agn ≠ 0 by simpa using hz.out)]; rfl]
        rfl
      go_upto_region 33 with (fail)
      refine vR ?_
      refine vB cn_big A (cn_size _) ?_
      refine vV (.slice (some ⟨gl, 0, none⟩) n cl) ?_
      refine sB (cnCells d) cn_big Z (cn_size _) (cn_size _) (cn_one _) ?_
      intro zw1 zt2 zB3
      clear Z
      replace A := A.touch zt2 (by omega)
      replace L := L.touch zt2 (by omega)
      replace H := H.touch zt2 (by omega)
      replace G := since_touch G zt2 (by omega)
      have zt2_s := zt2.size
      refine vV (.slice (some ⟨gl, 0, none⟩) n cl) ?_
      refine vE #[u0,.int .i64 now,.pointer (some ⟨w.heap.size, 0, none⟩),u3,.pointer (some ⟨w.heap.size + 1, 0, none⟩),.slice (some ⟨gl, 0, none⟩) n cl,.slice (some ⟨gl, 0, none⟩) n cl,u7,u8,u9,u10,u11,u12,u13,u14,u15,u16,u17,u18,u19,u20,u21,u22,u23,u24,u25,u26,u27,u28,u29,u30,u31,u32,u33,u34,u35,u36,u37,u38,u39,u40,u41,u42,u43,u44,u45,u46,u47,u48,u49,u50,u51,u52,u53,u54,u55,u56,u57,u58,u59,u60,u61,u62,u63,u64,u65,u66,u67,u68,u69,u70,u71,u72,u73,u74,u75,u76,u77,u78,u79,u80,u81,u82,u83,u84,u85,u86,u87,u88,u89,u90,u91,u92,u93,u94,u95,u96,u97,u98,u99,.pointer (some ⟨w.heap.size, 31, none⟩),.int .i64 d.agn,.bool false,.bool false,U,U,U,U,.bool false,u109,u110,u111,u112,u113,u114,u115,u116,u117,u118,u119,u120,u121,u122,u123,u124,u125,u126,u127,u128,u129,u130,u131,u132,u133,u134,u135,u136,u137,u138,u139,u140,u141,u142,u143,u144,u145,u146,u147,u148,u149,u150,u151,u152,u153,u154,u155,u156,u157,u158,u159,u160,u161,u162,u163,u164,u165,u166,u167,u168,u169,u170,u171,u172,u173,u174,u175,u176,u177,u178,u179,u180,u181,u182,u183,u184,u185,.agg (cnCells d),.slice (some ⟨gl, 0, none⟩) n cl] ?_
      go_wp2_with (fail)
      refine bodyPost_ret (results_cn2 (t := 4) (u := 5) rfl _ rfl zB3) rfl ⟨gl, n, cl, ?_, ?_, ?_, G⟩
      · rw [hX]
        rfl
      · rw [hX]
        exact L
      · exact H
    case neg =>
      have hz : Hid ((d.agn != 0) = true) := by show (d.agn != 0) = true; simpa using hz0
      clear hz0
      cases bl
      case false =>
        refine vR ?_
        refine vV (.pointer (some ⟨w.heap.size, 31, none⟩)) ?_
        refine vD (.int .i64 d.agn) (A.cell 31) ?_
        refine vV (.bool true) ?_ (hrun := by rw [show true = (d.agn != 0) from hz.out.symm]; kernel_rfl)
        refine vV (.bool true) ?_
        refine vV (.pointer (some ⟨w.heap.size, 31, none⟩)) ?_
        refine vD (.int .i64 d.agn) (A.cell 31) ?_
        refine vV (.int .i64 now) ?_
        refine vV (.bool false) ?_ (hrun := by rw [show false = decide (d.agn ≤ now) from hbl.out]; kernel_rfl)
        refine vV (.bool false) ?_
        refine vE #[u0,.int .i64 now,.pointer (some ⟨w.heap.size, 0, none⟩),u3,.pointer (some ⟨w.heap.size + 1, 0, none⟩),.slice none 0 0,.slice (some ⟨gl, 0, none⟩) n cl,u7,u8,u9,u10,u11,u12,u13,u14,u15,u16,u17,u18,u19,u20,u21,u22,u23,u24,u25,u26,u27,u28,u29,u30,u31,u32,u33,u34,u35,u36,u37,u38,u39,u40,u41,u42,u43,u44,u45,u46,u47,u48,u49,u50,u51,u52,u53,u54,u55,u56,u57,u58,u59,u60,u61,u62,u63,u64,u65,u66,u67,u68,u69,u70,u71,u72,u73,u74,u75,u76,u77,u78,u79,u80,u81,u82,u83,u84,u85,u86,u87,u88,u89,u90,u91,u92,u93,u94,u95,u96,u97,u98,u99,.pointer (some ⟨w.heap.size, 31, none⟩),.int .i64 d.agn,.bool true,.bool true,.pointer (some ⟨w.heap.size, 31, none⟩),.int .i64 d.agn,.int .i64 now,.bool false,.bool false,u109,u110,u111,u112,u113,u114,u115,u116,u117,u118,u119,u120,u121,u122,u123,u124,u125,u126,u127,u128,u129,u130,u131,u132,u133,u134,u135,u136,u137,u138,u139,u140,u141,u142,u143,u144,u145,u146,u147,u148,u149,u150,u151,u152,u153,u154,u155,u156,u157,u158,u159,u160,u161,u162,u163,u164,u165,u166,u167,u168,u169,u170,u171,u172,u173,u174,u175,u176,u177,u178,u179,u180,u181,u182,u183,u184,u185,u186,u187] ?_
        have hX : SV = (d, xs) := by
          rw [hall.out, show dueB d.agn now = false by unfold dueB; rw [decide_eq_true (show d.agn ≠ 0 by simpa using hz.out), ← hbl.out]; rfl]
          rfl
        go_upto_region 33 with (fail)
        refine vR ?_
        refine vB cn_big A (cn_size _) ?_
        refine vV (.slice (some ⟨gl, 0, none⟩) n cl) ?_
        refine sB (cnCells d) cn_big Z (cn_size _) (cn_size _) (cn_one _) ?_
        intro zw1 zt2 zB3
        clear Z
        replace A := A.touch zt2 (by omega)
        replace L := L.touch zt2 (by omega)
        replace H := H.touch zt2 (by omega)
        replace G := since_touch G zt2 (by omega)
        have zt2_s := zt2.size
        refine vV (.slice (some ⟨gl, 0, none⟩) n cl) ?_
        refine vE #[u0,.int .i64 now,.pointer (some ⟨w.heap.size, 0, none⟩),u3,.pointer (some ⟨w.heap.size + 1, 0, none⟩),.slice (some ⟨gl, 0, none⟩) n cl,.slice (some ⟨gl, 0, none⟩) n cl,u7,u8,u9,u10,u11,u12,u13,u14,u15,u16,u17,u18,u19,u20,u21,u22,u23,u24,u25,u26,u27,u28,u29,u30,u31,u32,u33,u34,u35,u36,u37,u38,u39,u40,u41,u42,u43,u44,u45,u46,u47,u48,u49,u50,u51,u52,u53,u54,u55,u56,u57,u58,u59,u60,u61,u62,u63,u64,u65,u66,u67,u68,u69,u70,u71,u72,u73,u74,u75,u76,u77,u78,u79,u80,u81,u82,u83,u84,u85,u86,u87,u88,u89,u90,u91,u92,u93,u94,u95,u96,u97,u98,u99,.pointer (some ⟨w.heap.size, 31, none⟩),.int .i64 d.agn,.bool true,.bool true,.pointer (some ⟨w.heap.size, 31, none⟩),.int .i64 d.agn,.int .i64 now,.bool false,.bool false,u109,u110,u111,u112,u113,u114,u115,u116,u117,u118,u119,u120,u121,u122,u123,u124,u125,u126,u127,u128,u129,u130,u131,u132,u133,u134,u135,u136,u137,u138,u139,u140,u141,u142,u143,u144,u145,u146,u147,u148,u149,u150,u151,u152,u153,u154,u155,u156,u157,u158,u159,u160,u161,u162,u163,u164,u165,u166,u167,u168,u169,u170,u171,u172,u173,u174,u175,u176,u177,u178,u179,u180,u181,u182,u183,u184,u185,.agg (cnCells d),.slice (some ⟨gl, 0, none⟩) n cl] ?_
        go_wp2_with (fail)
        refine bodyPost_ret (results_cn2 (t := 4) (u := 5) rfl _ rfl zB3) rfl ⟨gl, n, cl, ?_, ?_, ?_, G⟩
        · rw [hX]
          rfl
        · rw [hX]
          exact L
        · exact H
      case true =>
        have hX0 : Hid (SV = againX ps now d xs) := by
          show _ = _
          rw [hall.out, show dueB d.agn now = true by unfold dueB; rw [decide_eq_true (show d.agn ≠ 0 by simpa using hz.out), ← hbl.out]; rfl]
          rfl
        obtain ⟨bT, hbT⟩ : ∃ q, Hid (q = decide (d.trs ≥ 10)) := ⟨_, rfl⟩
        refine vR ?_
        refine vV (.pointer (some ⟨w.heap.size, 31, none⟩)) ?_
        refine vD (.int .i64 d.agn) (A.cell 31) ?_
        refine vV (.bool true) ?_ (hrun := by rw [show true = (d.agn != 0) from hz.out.symm]; kernel_rfl)
        refine vV (.bool true) ?_
        refine vV (.pointer (some ⟨w.heap.size, 31, none⟩)) ?_
        refine vD (.int .i64 d.agn) (A.cell 31) ?_
        refine vV (.int .i64 now) ?_
        refine vV (.bool true) ?_ (hrun := by rw [show true = decide (d.agn ≤ now) from hbl.out]; kernel_rfl)
        refine vV (.bool true) ?_
        refine vE #[u0,.int .i64 now,.pointer (some ⟨w.heap.size, 0, none⟩),u3,.pointer (some ⟨w.heap.size + 1, 0, none⟩),.slice none 0 0,.slice (some ⟨gl, 0, none⟩) n cl,u7,u8,u9,u10,u11,u12,u13,u14,u15,u16,u17,u18,u19,u20,u21,u22,u23,u24,u25,u26,u27,u28,u29,u30,u31,u32,u33,u34,u35,u36,u37,u38,u39,u40,u41,u42,u43,u44,u45,u46,u47,u48,u49,u50,u51,u52,u53,u54,u55,u56,u57,u58,u59,u60,u61,u62,u63,u64,u65,u66,u67,u68,u69,u70,u71,u72,u73,u74,u75,u76,u77,u78,u79,u80,u81,u82,u83,u84,u85,u86,u87,u88,u89,u90,u91,u92,u93,u94,u95,u96,u97,u98,u99,.pointer (some ⟨w.heap.size, 31, none⟩),.int .i64 d.agn,.bool true,.bool true,.pointer (some ⟨w.heap.size, 31, none⟩),.int .i64 d.agn,.int .i64 now,.bool true,.bool true,u109,u110,u111,u112,u113,u114,u115,u116,u117,u118,u119,u120,u121,u122,u123,u124,u125,u126,u127,u128,u129,u130,u131,u132,u133,u134,u135,u136,u137,u138,u139,u140,u141,u142,u143,u144,u145,u146,u147,u148,u149,u150,u151,u152,u153,u154,u155,u156,u157,u158,u159,u160,u161,u162,u163,u164,u165,u166,u167,u168,u169,u170,u171,u172,u173,u174,u175,u176,u177,u178,u179,u180,u181,u182,u183,u184,u185,u186,u187] ?_
        go_upto_region 17 with (fail)
        cases bT
        case true =>
          have hTr := ok.tr
          have hX : SV = (endC d 3, xs) := hX0.out.trans (if_pos (by have := hbT.out; simp at this; omega))
          have hen := fun wx => specEnd d 3 wx
          unfold cnVal at hen
          refine vR ?_
          refine vV (.pointer (some ⟨w.heap.size, 34, none⟩)) ?_
          refine vD (.int .i64 d.trs) (A.cell 34) ?_
          refine vV (.bool true) ?_ (hrun := by rw [show true = decide (d.trs ≥ 10) from hbT.out]; kernel_rfl)
          refine vE #[u0,.int .i64 now,.pointer (some ⟨w.heap.size, 0, none⟩),u3,.pointer (some ⟨w.heap.size + 1, 0, none⟩),.slice none 0 0,.slice (some ⟨gl, 0, none⟩) n cl,u7,u8,u9,u10,u11,u12,u13,u14,u15,u16,u17,u18,u19,u20,u21,u22,u23,u24,u25,u26,u27,u28,u29,u30,u31,u32,u33,u34,u35,u36,u37,u38,u39,u40,u41,u42,u43,u44,u45,u46,u47,u48,u49,u50,u51,u52,u53,u54,u55,u56,u57,u58,u59,u60,u61,u62,u63,u64,u65,u66,u67,u68,u69,u70,u71,u72,u73,u74,u75,u76,u77,u78,u79,u80,u81,u82,u83,u84,u85,u86,u87,u88,u89,u90,u91,u92,u93,u94,u95,u96,u97,u98,u99,.pointer (some ⟨w.heap.size, 31, none⟩),.int .i64 d.agn,.bool true,.bool true,.pointer (some ⟨w.heap.size, 31, none⟩),.int .i64 d.agn,.int .i64 now,.bool true,.bool true,.pointer (some ⟨w.heap.size, 34, none⟩),.int .i64 d.trs,.bool true,u112,u113,u114,u115,u116,u117,u118,u119,u120,u121,u122,u123,u124,u125,u126,u127,u128,u129,u130,u131,u132,u133,u134,u135,u136,u137,u138,u139,u140,u141,u142,u143,u144,u145,u146,u147,u148,u149,u150,u151,u152,u153,u154,u155,u156,u157,u158,u159,u160,u161,u162,u163,u164,u165,u166,u167,u168,u169,u170,u171,u172,u173,u174,u175,u176,u177,u178,u179,u180,u181,u182,u183,u184,u185,u186,u187] ?_
          go_upto_region 18 with (fail)
          refine vR ?_
          refine vB cn_big A (cn_size _) ?_
          refine vK (hen _) ?_
          intro zw1 zg2
          replace A := A.since zg2
          replace Z := Z.since zg2
          replace L := L.since zg2
          replace H := H.since zg2
          replace G := G.trans zg2
          have zg2_s := zg2.size
          refine vV (.slice (some ⟨gl, 0, none⟩) n cl) ?_
          refine sB (cnCells (endC d 3)) cn_big Z (cn_size _) (cn_size _) (cn_one _) ?_
          intro zw3 zt4 zB5
          clear Z
          replace A := A.touch zt4 (by omega)
          replace L := L.touch zt4 (by omega)
          replace H := H.touch zt4 (by omega)
          replace G := since_touch G zt4 (by omega)
          have zt4_s := zt4.size
          refine vV (.slice (some ⟨gl, 0, none⟩) n cl) ?_
          refine vE #[u0,.int .i64 now,.pointer (some ⟨w.heap.size, 0, none⟩),u3,.pointer (some ⟨w.heap.size + 1, 0, none⟩),.slice (some ⟨gl, 0, none⟩) n cl,.slice (some ⟨gl, 0, none⟩) n cl,u7,u8,u9,u10,u11,u12,u13,u14,u15,u16,u17,u18,u19,u20,u21,u22,u23,u24,u25,u26,u27,u28,u29,u30,u31,u32,u33,u34,u35,u36,u37,u38,u39,u40,u41,u42,u43,u44,u45,u46,u47,u48,u49,u50,u51,u52,u53,u54,u55,u56,u57,u58,u59,u60,u61,u62,u63,u64,u65,u66,u67,u68,u69,u70,u71,u72,u73,u74,u75,u76,u77,u78,u79,u80,u81,u82,u83,u84,u85,u86,u87,u88,u89,u90,u91,u92,u93,u94,u95,u96,u97,u98,u99,.pointer (some ⟨w.heap.size, 31, none⟩),.int .i64 d.agn,.bool true,.bool true,.pointer (some ⟨w.heap.size, 31, none⟩),.int .i64 d.agn,.int .i64 now,.bool true,.bool true,.pointer (some ⟨w.heap.size, 34, none⟩),.int .i64 d.trs,.bool true,.agg (cnCells d),.agg (cnCells (endC d 3)),.slice (some ⟨gl, 0, none⟩) n cl,u115,u116,u117,u118,u119,u120,u121,u122,u123,u124,u125,u126,u127,u128,u129,u130,u131,u132,u133,u134,u135,u136,u137,u138,u139,u140,u141,u142,u143,u144,u145,u146,u147,u148,u149,u150,u151,u152,u153,u154,u155,u156,u157,u158,u159,u160,u161,u162,u163,u164,u165,u166,u167,u168,u169,u170,u171,u172,u173,u174,u175,u176,u177,u178,u179,u180,u181,u182,u183,u184,u185,u186,u187] ?_
          go_wp2_with (fail)
          refine bodyPost_ret (results_cn2 (t := 4) (u := 5) rfl _ rfl zB5) rfl ⟨gl, n, cl, ?_, ?_, ?_, G⟩
          · rw [hX]
            rfl
          · rw [hX]
            exact L
          · exact H
        case false =>
          have hTr := ok.tr
          have hlt : ¬ d.trs = 10 := by have := hbT.out; simp at this; omega
          have hX1 : Hid (SV = if d.st = 1 ∨ d.st = 2 then (triedC d now, xs ++ [synSg (triedC d now) ps]) else backX ps now (triedC d now) xs) := hX0.out.trans (if_neg hlt)
          have hwr : Hid (IntKind.i64.wrap (d.trs + 1) = d.trs + 1) := by
            show _ = _
            rw [IntWalk.i64_left]
            exact IntWalk.wrap64_in _ ⟨by omega, by omega⟩
          have hbk := fun wx => specBack d.rA d.rS d.rV d.rD wx
          rw [ok.rt, if_pos rfl] at hbk
          unfold rttVal at hbk
          obtain ⟨rd, hrd⟩ : ∃ q, Hid (q = min (d.rD + 1) 8) := ⟨_, rfl⟩
          rw [← hrd.out] at hbk
          have hsd := fun wx => specDist d.una d.mx (distI d.una d.mx) ok.w_una ok.w_mx (distI_is _ _) wx
          have hcl := fun wx => specClip (distI d.una d.mx) 0 8000 (by omega) wx
          have huw : min (max (distI d.una d.mx) 0) 8000 = uwN d := by
            have := ok.um
            unfold uwN
            omega
          rw [huw] at hcl
          generalize distI d.una d.mx = dst at hsd hcl
          clear huw
          have hub : 0 ≤ uwN d ∧ uwN d ≤ 8000 := by
            have := ok.um
            unfold uwN
            omega
          have hlo := fun wx => specLost d.cX d.cT d.cD d.cF d.cR (uwN d) wx
          unfold lostOf at hlo
          rw [ok.cg, decide_eq_true hub] at hlo
          rw [show (if (true && true) = true then congVal 100 (max (uwN d / 2) 200) 0 false 0 else congVal d.cX d.cT d.cD d.cF d.cR) = congVal 100 (max (uwN d / 2) 200) 0 false 0 from rfl] at hlo
          unfold congVal at hlo
          obtain ⟨ct, hct⟩ : ∃ q, Hid (q = max (uwN d / 2) 200) := ⟨_, rfl⟩
          rw [← hct.out] at hlo
          obtain ⟨wt, hwt⟩ : ∃ q, Hid (q = waitOf d.rA d.rS d.rV rd) := ⟨_, rfl⟩
          have htC : Hid (triedC d now = { d with trs := (d.trs + 1), rD := rd, cX := 100, cT := ct, cD := 0, cF := false, cR := 0, tmg := false, agn := (now + wt) }) := by
            show triedC d now = _
            unfold triedC
            rw [hwt.out, hrd.out, hct.out]
          generalize uwN d = uw at hlo hcl
          clear hub hct hlt
          have hww := fun wx => specWait d.rA d.rS d.rV rd wx
          have hwb := wait_in11 d.rA d.rS d.rV rd
          unfold rttVal at hww
          rw [← hwt.out] at hww hwb
          have hsm : Hid (IntKind.i64.wrap (now + wt) = now + wt) := by
            show _ = _
            rw [IntWalk.i64_left]
            exact IntWalk.wrap64_in _ ⟨by omega, by omega⟩
          clear hwb
          obtain ⟨b1, h1_⟩ : ∃ q, Hid (q = (d.st == 1)) := ⟨_, rfl⟩
          obtain ⟨b2, h2_⟩ : ∃ q, Hid (q = (d.st == 2)) := ⟨_, rfl⟩
          refine vR ?_
          refine vV (.pointer (some ⟨w.heap.size, 34, none⟩)) ?_
          refine vD (.int .i64 d.trs) (A.cell 34) ?_
          refine vV (.bool false) ?_ (hrun := by rw [show false = decide (d.trs ≥ 10) from hbT.out]; kernel_rfl)
          refine vE #[u0,.int .i64 now,.pointer (some ⟨w.heap.size, 0, none⟩),u3,.pointer (some ⟨w.heap.size + 1, 0, none⟩),.slice none 0 0,.slice (some ⟨gl, 0, none⟩) n cl,u7,u8,u9,u10,u11,u12,u13,u14,u15,u16,u17,u18,u19,u20,u21,u22,u23,u24,u25,u26,u27,u28,u29,u30,u31,u32,u33,u34,u35,u36,u37,u38,u39,u40,u41,u42,u43,u44,u45,u46,u47,u48,u49,u50,u51,u52,u53,u54,u55,u56,u57,u58,u59,u60,u61,u62,u63,u64,u65,u66,u67,u68,u69,u70,u71,u72,u73,u74,u75,u76,u77,u78,u79,u80,u81,u82,u83,u84,u85,u86,u87,u88,u89,u90,u91,u92,u93,u94,u95,u96,u97,u98,u99,.pointer (some ⟨w.heap.size, 31, none⟩),.int .i64 d.agn,.bool true,.bool true,.pointer (some ⟨w.heap.size, 31, none⟩),.int .i64 d.agn,.int .i64 now,.bool true,.bool true,.pointer (some ⟨w.heap.size, 34, none⟩),.int .i64 d.trs,.bool false,u112,u113,u114,u115,u116,u117,u118,u119,u120,u121,u122,u123,u124,u125,u126,u127,u128,u129,u130,u131,u132,u133,u134,u135,u136,u137,u138,u139,u140,u141,u142,u143,u144,u145,u146,u147,u148,u149,u150,u151,u152,u153,u154,u155,u156,u157,u158,u159,u160,u161,u162,u163,u164,u165,u166,u167,u168,u169,u170,u171,u172,u173,u174,u175,u176,u177,u178,u179,u180,u181,u182,u183,u184,u185,u186,u187] ?_
          go_upto_region 19 with (fail)
          refine vR ?_
          refine vV (.pointer (some ⟨w.heap.size, 34, none⟩)) ?_
          refine vD (.int .i64 d.trs) (A.cell 34) ?_
          refine vV (.int .i64 (d.trs + 1)) ?_ (hrun := by rw [← hwr.out]; kernel_rfl)
          refine vV (.pointer (some ⟨w.heap.size, 34, none⟩)) ?_
          refine sC (cnCells { d with trs := (d.trs + 1) }) A 34 (.int .i64 (d.trs + 1)) (cn_size _) ?_
          intro zw1 zt2 zB3
          clear A
          replace Z := Z.touch zt2 (by omega)
          replace L := L.touch zt2 (by omega)
          replace H := H.touch zt2 (by omega)
          replace G := since_touch G zt2 (by omega)
          have zt2_s := zt2.size
          refine vE #[u0,.int .i64 now,.pointer (some ⟨w.heap.size, 0, none⟩),u3,.pointer (some ⟨w.heap.size + 1, 0, none⟩),.slice none 0 0,.slice (some ⟨gl, 0, none⟩) n cl,u7,u8,u9,u10,u11,u12,u13,u14,u15,u16,u17,u18,u19,u20,u21,u22,u23,u24,u25,u26,u27,u28,u29,u30,u31,u32,u33,u34,u35,u36,u37,u38,u39,u40,u41,u42,u43,u44,u45,u46,u47,u48,u49,u50,u51,u52,u53,u54,u55,u56,u57,u58,u59,u60,u61,u62,u63,u64,u65,u66,u67,u68,u69,u70,u71,u72,u73,u74,u75,u76,u77,u78,u79,u80,u81,u82,u83,u84,u85,u86,u87,u88,u89,u90,u91,u92,u93,u94,u95,u96,u97,u98,u99,.pointer (some ⟨w.heap.size, 31, none⟩),.int .i64 d.agn,.bool true,.bool true,.pointer (some ⟨w.heap.size, 31, none⟩),.int .i64 d.agn,.int .i64 now,.bool true,.bool true,.pointer (some ⟨w.heap.size, 34, none⟩),.int .i64 d.trs,.bool false,u112,u113,u114,.pointer (some ⟨w.heap.size, 34, none⟩),.int .i64 d.trs,.int .i64 (d.trs + 1),.pointer (some ⟨w.heap.size, 34, none⟩),u119,u120,u121,u122,u123,u124,u125,u126,u127,u128,u129,u130,u131,u132,u133,u134,u135,u136,u137,u138,u139,u140,u141,u142,u143,u144,u145,u146,u147,u148,u149,u150,u151,u152,u153,u154,u155,u156,u157,u158,u159,u160,u161,u162,u163,u164,u165,u166,u167,u168,u169,u170,u171,u172,u173,u174,u175,u176,u177,u178,u179,u180,u181,u182,u183,u184,u185,u186,u187] ?_
          go_upto_region 20 with (fail)
          refine vR ?_
          refine vV (.pointer (some ⟨w.heap.size, 19, none⟩)) ?_
          refine vP pRtt_big zB3 19 [.bool d.rA, .int .i64 d.rS, .int .i64 d.rV, .int .i64 d.rD] ?_
          refine vK (hbk _) ?_
          intro zw4 zg5
          replace zB3 := zB3.since zg5
          replace Z := Z.since zg5
          replace L := L.since zg5
          replace H := H.since zg5
          replace G := G.trans zg5
          have zg5_s := zg5.size
          refine vV (.pointer (some ⟨w.heap.size, 19, none⟩)) ?_
          refine sP (cnCells { d with trs := (d.trs + 1), rA := d.rA, rS := d.rS, rV := d.rV, rD := rd }) pRtt_big zB3 19 #[.bool d.rA, .int .i64 d.rS, .int .i64 d.rV, .int .i64 rd] (cn_size _) (by simp [Value.oneCell']) ?_
          intro zw6 zt7 zB8
          clear zB3
          replace Z := Z.touch zt7 (by omega)
          replace L := L.touch zt7 (by omega)
          replace H := H.touch zt7 (by omega)
          replace G := since_touch G zt7 (by omega)
          have zt7_s := zt7.size
          refine vE #[u0,.int .i64 now,.pointer (some ⟨w.heap.size, 0, none⟩),u3,.pointer (some ⟨w.heap.size + 1, 0, none⟩),.slice none 0 0,.slice (some ⟨gl, 0, none⟩) n cl,u7,u8,u9,u10,u11,u12,u13,u14,u15,u16,u17,u18,u19,u20,u21,u22,u23,u24,u25,u26,u27,u28,u29,u30,u31,u32,u33,u34,u35,u36,u37,u38,u39,u40,u41,u42,u43,u44,u45,u46,u47,u48,u49,u50,u51,u52,u53,u54,u55,u56,u57,u58,u59,u60,u61,u62,u63,u64,u65,u66,u67,u68,u69,u70,u71,u72,u73,u74,u75,u76,u77,u78,u79,u80,u81,u82,u83,u84,u85,u86,u87,u88,u89,u90,u91,u92,u93,u94,u95,u96,u97,u98,u99,.pointer (some ⟨w.heap.size, 31, none⟩),.int .i64 d.agn,.bool true,.bool true,.pointer (some ⟨w.heap.size, 31, none⟩),.int .i64 d.agn,.int .i64 now,.bool true,.bool true,.pointer (some ⟨w.heap.size, 34, none⟩),.int .i64 d.trs,.bool false,u112,u113,u114,.pointer (some ⟨w.heap.size, 34, none⟩),.int .i64 d.trs,.int .i64 (d.trs + 1),.pointer (some ⟨w.heap.size, 34, none⟩),.pointer (some ⟨w.heap.size, 19, none⟩),.agg #[.bool d.rA, .int .i64 d.rS, .int .i64 d.rV, .int .i64 d.rD],.agg #[.bool d.rA, .int .i64 d.rS, .int .i64 d.rV, .int .i64 rd],.pointer (some ⟨w.heap.size, 19, none⟩),u123,u124,u125,u126,u127,u128,u129,u130,u131,u132,u133,u134,u135,u136,u137,u138,u139,u140,u141,u142,u143,u144,u145,u146,u147,u148,u149,u150,u151,u152,u153,u154,u155,u156,u157,u158,u159,u160,u161,u162,u163,u164,u165,u166,u167,u168,u169,u170,u171,u172,u173,u174,u175,u176,u177,u178,u179,u180,u181,u182,u183,u184,u185,u186,u187] ?_
          go_upto_region 21 with (fail)
          refine wp_region_tail (wb := zw6) 10 (fun i x v => match i with
              | 0 => v = .pointer (some ⟨w.heap.size, 23, none⟩)
              | 1 => v = .agg #[.int .i64 d.cX, .int .i64 d.cT, .int .i64 d.cD, .bool d.cF, .int .u32 d.cR]
              | 2 => v = .pointer (some ⟨w.heap.size, 2, none⟩)
              | 3 => v = .int .u32 d.una
              | 4 => v = .pointer (some ⟨w.heap.size, 4, none⟩)
              | 5 => v = .int .u32 d.mx
              | 6 => v = .int .i64 dst
              | 7 => v = .int .i64 uw
              | 8 => v = .agg #[.int .i64 100, .int .i64 ct, .int .i64 0, .bool false, .int .u32 0]
              | 9 => v = .pointer (some ⟨w.heap.size, 23, none⟩)
              | _ => True) (fun v => { tmps := #[u0, .int .i64 now, .pointer (some ⟨w.heap.size, 0, none⟩), u3, .pointer (some ⟨w.heap.size + 1, 0, none⟩), .slice none 0 0, .slice (some ⟨gl, 0, none⟩) n cl, u7, u8, u9, u10, u11, u12, u13, u14, u15, u16, u17, u18, u19, u20, u21, u22, u23, u24, u25, u26, u27, u28, u29, u30, u31, u32, u33, u34, u35, u36, u37, u38, u39, u40, u41, u42, u43, u44, u45, u46, u47, u48, u49, u50, u51, u52, u53, u54, u55, u56, u57, u58, u59, u60, u61, u62, u63, u64, u65, u66, u67, u68, u69, u70, u71, u72, u73, u74, u75, u76, u77, u78, u79, u80, u81, u82, u83, u84, u85, u86, u87, u88, u89, u90, u91, u92, u93, u94, u95, u96, u97, u98, u99, .pointer (some ⟨w.heap.size, 31, none⟩), .int .i64 d.agn, .bool true, .bool true, .pointer (some ⟨w.heap.size, 31, none⟩), .int .i64 d.agn, .int .i64 now, .bool true, .bool true, .pointer (some ⟨w.heap.size, 34, none⟩), .int .i64 d.trs, .bool false, u112, u113, u114, .pointer (some ⟨w.heap.size, 34, none⟩), .int .i64 d.trs, .int .i64 (d.trs + 1), .pointer (some ⟨w.heap.size, 34, none⟩), .pointer (some ⟨w.heap.size, 19, none⟩), .agg #[.bool d.rA, .int .i64 d.rS, .int .i64 d.rV, .int .i64 d.rD], .agg #[.bool d.rA, .int .i64 d.rS, .int .i64 d.rV, .int .i64 rd], .pointer (some ⟨w.heap.size, 19, none⟩), v 0, v 1, v 2, v 3, v 4, v 5, v 6, v 7, v 8, v 9, u133, u134, u135, u136, u137, u138, u139, u140, u141, u142, u143, u144, u145, u146, u147, u148, u149, u150, u151, u152, u153, u154, u155, u156, u157, u158, u159, u160, u161, u162, u163, u164, u165, u166, u167, u168, u169, u170, u171, u172, u173, u174, u175, u176, u177, u178, u179, u180, u181, u182, u183, u184, u185, u186, u187], defers := [] }) (by kernel_rfl) (by kernel_rfl) (by kernel_rfl) (Since.refl _) ?_ (fun vals => by kernel_rfl) ?_ ?_
          case refine_1 =>
            intro j x x' v h1 h2
            match j, h2 with
            | 0, h2 | 1, h2 | 2, h2 | 3, h2 | 4, h2 | 5, h2 | 6, h2 | 7, h2 | 8, h2 | 9, h2 => exact h2
            | n + 10, _ => trivial
          case refine_2 =>
            repeat (first | exact eachDoes_nil | refine eachDoes_cons ?_ ?_)
            all_goals intro vals x hx hv
            all_goals simp [Region.binds] at hv
            · simp [does, doesUpon, go_sem, Since.refl]
            · simp [does, doesUpon, go_sem, hv]
              refine (hlo _).mono ?_
              rintro _ x' ⟨rfl, h1⟩
              simp [h1]
            · simp [does, doesUpon, go_sem, hv]
              refine (hcl _).mono ?_
              rintro _ x' ⟨rfl, rfl⟩
              simp [Since.refl]
            · simp [does, doesUpon, go_sem, hv]
              refine (hsd _).mono ?_
              rintro _ x' ⟨rfl, rfl⟩
              simp [Since.refl]
            · have fl0 : x.cell? ⟨w.heap.size, 4, none⟩ = some (.int .u32 d.mx) := (zB8.since hx).cell 4
              simp [does, doesUpon, go_sem, hv, fl0, Since.refl]
            · simp [does, doesUpon, go_sem, Since.refl]
            · have fl0 : x.cell? ⟨w.heap.size, 2, none⟩ = some (.int .u32 d.una) := (zB8.since hx).cell 2
              simp [does, doesUpon, go_sem, hv, fl0, Since.refl]
            · simp [does, doesUpon, go_sem, Since.refl]
            · exact does_part_load (zB8.since hx) pCong_big _ rfl 23 hv [.int .i64 d.cX, .int .i64 d.cT, .int .i64 d.cD, .bool d.cF, .int .u32 d.cR] rfl (fun j v hj => by match j, hj with | 0, h => exact h | 1, h => exact h | 2, h => exact h | 3, h => exact h | 4, h => exact h | n + 5, h => exact absurd h (by simp)) ⟨Since.refl _, rfl⟩
            · simp [does, doesUpon, go_sem, Since.refl]
          case refine_3 =>
            intro zv11 zw9 zh10 hv
            have hv0 : zv11 0 = _ := hv 0 (by decide)
            have hv1 : zv11 1 = _ := hv 1 (by decide)
            have hv2 : zv11 2 = _ := hv 2 (by decide)
            have hv3 : zv11 3 = _ := hv 3 (by decide)
            have hv4 : zv11 4 = _ := hv 4 (by decide)
            have hv5 : zv11 5 = _ := hv 5 (by decide)
            have hv6 : zv11 6 = _ := hv 6 (by decide)
            have hv7 : zv11 7 = _ := hv 7 (by decide)
            have hv8 : zv11 8 = _ := hv 8 (by decide)
            have hv9 : zv11 9 = _ := hv 9 (by decide)
            clear hv
            simp only [hv0, hv1, hv2, hv3, hv4, hv5, hv6, hv7, hv8, hv9, List.drop]
            clear hv0 hv1 hv2 hv3 hv4 hv5 hv6 hv7 hv8 hv9
            replace zB8 := zB8.since zh10
            replace Z := Z.since zh10
            replace L := L.since zh10
            replace H := H.since zh10
            replace G := G.trans zh10
            have zh10_s := zh10.size
            refine VL.out ?_
            refine sP (cnCells { d with trs := (d.trs + 1), rA := d.rA, rS := d.rS, rV := d.rV, rD := rd, cX := 100, cT := ct, cD := 0, cF := false, cR := 0 }) pCong_big zB8 23 #[.int .i64 100, .int .i64 ct, .int .i64 0, .bool false, .int .u32 0] (cn_size _) (by simp [Value.oneCell']) ?_
            intro zw12 zt13 zB14
            clear zB8
            replace Z := Z.touch zt13 (by omega)
            replace L := L.touch zt13 (by omega)
            replace H := H.touch zt13 (by omega)
            replace G := since_touch G zt13 (by omega)
            have zt13_s := zt13.size
            refine vE #[u0,.int .i64 now,.pointer (some ⟨w.heap.size, 0, none⟩),u3,.pointer (some ⟨w.heap.size + 1, 0, none⟩),.slice none 0 0,.slice (some ⟨gl, 0, none⟩) n cl,u7,u8,u9,u10,u11,u12,u13,u14,u15,u16,u17,u18,u19,u20,u21,u22,u23,u24,u25,u26,u27,u28,u29,u30,u31,u32,u33,u34,u35,u36,u37,u38,u39,u40,u41,u42,u43,u44,u45,u46,u47,u48,u49,u50,u51,u52,u53,u54,u55,u56,u57,u58,u59,u60,u61,u62,u63,u64,u65,u66,u67,u68,u69,u70,u71,u72,u73,u74,u75,u76,u77,u78,u79,u80,u81,u82,u83,u84,u85,u86,u87,u88,u89,u90,u91,u92,u93,u94,u95,u96,u97,u98,u99,.pointer (some ⟨w.heap.size, 31, none⟩),.int .i64 d.agn,.bool true,.bool true,.pointer (some ⟨w.heap.size, 31, none⟩),.int .i64 d.agn,.int .i64 now,.bool true,.bool true,.pointer (some ⟨w.heap.size, 34, none⟩),.int .i64 d.trs,.bool false,u112,u113,u114,.pointer (some ⟨w.heap.size, 34, none⟩),.int .i64 d.trs,.int .i64 (d.trs + 1),.pointer (some ⟨w.heap.size, 34, none⟩),.pointer (some ⟨w.heap.size, 19, none⟩),.agg #[.bool d.rA, .int .i64 d.rS, .int .i64 d.rV, .int .i64 d.rD],.agg #[.bool d.rA, .int .i64 d.rS, .int .i64 d.rV, .int .i64 rd],.pointer (some ⟨w.heap.size, 19, none⟩),.pointer (some ⟨w.heap.size, 23, none⟩),.agg #[.int .i64 d.cX, .int .i64 d.cT, .int .i64 d.cD, .bool d.cF, .int .u32 d.cR],.pointer (some ⟨w.heap.size, 2, none⟩),.int .u32 d.una,.pointer (some ⟨w.heap.size, 4, none⟩),.int .u32 d.mx,.int .i64 dst,.int .i64 uw,.agg #[.int .i64 100, .int .i64 ct, .int .i64 0, .bool false, .int .u32 0],.pointer (some ⟨w.heap.size, 23, none⟩),u133,u134,u135,u136,u137,u138,u139,u140,u141,u142,u143,u144,u145,u146,u147,u148,u149,u150,u151,u152,u153,u154,u155,u156,u157,u158,u159,u160,u161,u162,u163,u164,u165,u166,u167,u168,u169,u170,u171,u172,u173,u174,u175,u176,u177,u178,u179,u180,u181,u182,u183,u184,u185,u186,u187] ?_
            go_upto_region 22 with (fail)
            refine vR ?_
            refine vV (.pointer (some ⟨w.heap.size, 28, none⟩)) ?_
            refine sC (cnCells { d with trs := (d.trs + 1), rA := d.rA, rS := d.rS, rV := d.rV, rD := rd, cX := 100, cT := ct, cD := 0, cF := false, cR := 0, tmg := false }) zB14 28 (.bool false) (cn_size _) ?_
            intro zw15 zt16 zB17
            clear zB14
            replace Z := Z.touch zt16 (by omega)
            replace L := L.touch zt16 (by omega)
            replace H := H.touch zt16 (by omega)
            replace G := since_touch G zt16 (by omega)
            have zt16_s := zt16.size
            refine vE #[u0,.int .i64 now,.pointer (some ⟨w.heap.size, 0, none⟩),u3,.pointer (some ⟨w.heap.size + 1, 0, none⟩),.slice none 0 0,.slice (some ⟨gl, 0, none⟩) n cl,u7,u8,u9,u10,u11,u12,u13,u14,u15,u16,u17,u18,u19,u20,u21,u22,u23,u24,u25,u26,u27,u28,u29,u30,u31,u32,u33,u34,u35,u36,u37,u38,u39,u40,u41,u42,u43,u44,u45,u46,u47,u48,u49,u50,u51,u52,u53,u54,u55,u56,u57,u58,u59,u60,u61,u62,u63,u64,u65,u66,u67,u68,u69,u70,u71,u72,u73,u74,u75,u76,u77,u78,u79,u80,u81,u82,u83,u84,u85,u86,u87,u88,u89,u90,u91,u92,u93,u94,u95,u96,u97,u98,u99,.pointer (some ⟨w.heap.size, 31, none⟩),.int .i64 d.agn,.bool true,.bool true,.pointer (some ⟨w.heap.size, 31, none⟩),.int .i64 d.agn,.int .i64 now,.bool true,.bool true,.pointer (some ⟨w.heap.size, 34, none⟩),.int .i64 d.trs,.bool false,u112,u113,u114,.pointer (some ⟨w.heap.size, 34, none⟩),.int .i64 d.trs,.int .i64 (d.trs + 1),.pointer (some ⟨w.heap.size, 34, none⟩),.pointer (some ⟨w.heap.size, 19, none⟩),.agg #[.bool d.rA, .int .i64 d.rS, .int .i64 d.rV, .int .i64 d.rD],.agg #[.bool d.rA, .int .i64 d.rS, .int .i64 d.rV, .int .i64 rd],.pointer (some ⟨w.heap.size, 19, none⟩),.pointer (some ⟨w.heap.size, 23, none⟩),.agg #[.int .i64 d.cX, .int .i64 d.cT, .int .i64 d.cD, .bool d.cF, .int .u32 d.cR],.pointer (some ⟨w.heap.size, 2, none⟩),.int .u32 d.una,.pointer (some ⟨w.heap.size, 4, none⟩),.int .u32 d.mx,.int .i64 dst,.int .i64 uw,.agg #[.int .i64 100, .int .i64 ct, .int .i64 0, .bool false, .int .u32 0],.pointer (some ⟨w.heap.size, 23, none⟩),.pointer (some ⟨w.heap.size, 28, none⟩),u134,u135,u136,u137,u138,u139,u140,u141,u142,u143,u144,u145,u146,u147,u148,u149,u150,u151,u152,u153,u154,u155,u156,u157,u158,u159,u160,u161,u162,u163,u164,u165,u166,u167,u168,u169,u170,u171,u172,u173,u174,u175,u176,u177,u178,u179,u180,u181,u182,u183,u184,u185,u186,u187] ?_
            go_upto_region 23 with (fail)
            refine vR ?_
            refine vV (.int .i64 now) ?_
            refine vV (.pointer (some ⟨w.heap.size, 19, none⟩)) ?_
            refine vP pRtt_big zB17 19 [.bool d.rA, .int .i64 d.rS, .int .i64 d.rV, .int .i64 rd] ?_
            refine vK (hww _) ?_
            intro zw18 zg19
            replace zB17 := zB17.since zg19
            replace Z := Z.since zg19
            replace L := L.since zg19
            replace H := H.since zg19
            replace G := G.trans zg19
            have zg19_s := zg19.size
            refine vV (.int .i64 (now + wt)) ?_ (hrun := by rw [← hsm.out]; kernel_rfl)
            refine vV (.pointer (some ⟨w.heap.size, 31, none⟩)) ?_
            refine sC (cnCells { d with trs := (d.trs + 1), rA := d.rA, rS := d.rS, rV := d.rV, rD := rd, cX := 100, cT := ct, cD := 0, cF := false, cR := 0, tmg := false, agn := (now + wt) }) zB17 31 (.int .i64 (now + wt)) (cn_size _) ?_
            intro zw20 zt21 zB22
            clear zB17
            replace Z := Z.touch zt21 (by omega)
            replace L := L.touch zt21 (by omega)
            replace H := H.touch zt21 (by omega)
            replace G := since_touch G zt21 (by omega)
            have zt21_s := zt21.size
            refine vE #[u0,.int .i64 now,.pointer (some ⟨w.heap.size, 0, none⟩),u3,.pointer (some ⟨w.heap.size + 1, 0, none⟩),.slice none 0 0,.slice (some ⟨gl, 0, none⟩) n cl,u7,u8,u9,u10,u11,u12,u13,u14,u15,u16,u17,u18,u19,u20,u21,u22,u23,u24,u25,u26,u27,u28,u29,u30,u31,u32,u33,u34,u35,u36,u37,u38,u39,u40,u41,u42,u43,u44,u45,u46,u47,u48,u49,u50,u51,u52,u53,u54,u55,u56,u57,u58,u59,u60,u61,u62,u63,u64,u65,u66,u67,u68,u69,u70,u71,u72,u73,u74,u75,u76,u77,u78,u79,u80,u81,u82,u83,u84,u85,u86,u87,u88,u89,u90,u91,u92,u93,u94,u95,u96,u97,u98,u99,.pointer (some ⟨w.heap.size, 31, none⟩),.int .i64 d.agn,.bool true,.bool true,.pointer (some ⟨w.heap.size, 31, none⟩),.int .i64 d.agn,.int .i64 now,.bool true,.bool true,.pointer (some ⟨w.heap.size, 34, none⟩),.int .i64 d.trs,.bool false,u112,u113,u114,.pointer (some ⟨w.heap.size, 34, none⟩),.int .i64 d.trs,.int .i64 (d.trs + 1),.pointer (some ⟨w.heap.size, 34, none⟩),.pointer (some ⟨w.heap.size, 19, none⟩),.agg #[.bool d.rA, .int .i64 d.rS, .int .i64 d.rV, .int .i64 d.rD],.agg #[.bool d.rA, .int .i64 d.rS, .int .i64 d.rV, .int .i64 rd],.pointer (some ⟨w.heap.size, 19, none⟩),.pointer (some ⟨w.heap.size, 23, none⟩),.agg #[.int .i64 d.cX, .int .i64 d.cT, .int .i64 d.cD, .bool d.cF, .int .u32 d.cR],.pointer (some ⟨w.heap.size, 2, none⟩),.int .u32 d.una,.pointer (some ⟨w.heap.size, 4, none⟩),.int .u32 d.mx,.int .i64 dst,.int .i64 uw,.agg #[.int .i64 100, .int .i64 ct, .int .i64 0, .bool false, .int .u32 0],.pointer (some ⟨w.heap.size, 23, none⟩),.pointer (some ⟨w.heap.size, 28, none⟩),.int .i64 now,.pointer (some ⟨w.heap.size, 19, none⟩),.agg #[.bool d.rA, .int .i64 d.rS, .int .i64 d.rV, .int .i64 rd],.int .i64 wt,.int .i64 (now + wt),.pointer (some ⟨w.heap.size, 31, none⟩),u140,u141,u142,u143,u144,u145,u146,u147,u148,u149,u150,u151,u152,u153,u154,u155,u156,u157,u158,u159,u160,u161,u162,u163,u164,u165,u166,u167,u168,u169,u170,u171,u172,u173,u174,u175,u176,u177,u178,u179,u180,u181,u182,u183,u184,u185,u186,u187] ?_
            go_upto_region 24 with (fail)
            rename_i Ki hKi
            replace hKi : Hid _ := hKi
            have keyS : (d.st = 1 ∨ d.st = 2) → ∀ v142 v143 v144 v145 v146 : Value, Ki { tmps := #[u0, .int .i64 now, .pointer (some ⟨w.heap.size, 0, none⟩), u3, .pointer (some ⟨w.heap.size + 1, 0, none⟩), .slice none 0 0, .slice (some ⟨gl, 0, none⟩) n cl, u7, u8, u9, u10, u11, u12, u13, u14, u15, u16, u17, u18, u19, u20, u21, u22, u23, u24, u25, u26, u27, u28, u29, u30, u31, u32, u33, u34, u35, u36, u37, u38, u39, u40, u41, u42, u43, u44, u45, u46, u47, u48, u49, u50, u51, u52, u53, u54, u55, u56, u57, u58, u59, u60, u61, u62, u63, u64, u65, u66, u67, u68, u69, u70, u71, u72, u73, u74, u75, u76, u77, u78, u79, u80, u81, u82, u83, u84, u85, u86, u87, u88, u89, u90, u91, u92, u93, u94, u95, u96, u97, u98, u99, .pointer (some ⟨w.heap.size, 31, none⟩), .int .i64 d.agn, .bool true, .bool true, .pointer (some ⟨w.heap.size, 31, none⟩), .int .i64 d.agn, .int .i64 now, .bool true, .bool true, .pointer (some ⟨w.heap.size, 34, none⟩), .int .i64 d.trs, .bool false, u112, u113, u114, .pointer (some ⟨w.heap.size, 34, none⟩), .int .i64 d.trs, .int .i64 (d.trs + 1), .pointer (some ⟨w.heap.size, 34, none⟩), .pointer (some ⟨w.heap.size, 19, none⟩), .agg #[.bool d.rA, .int .i64 d.rS, .int .i64 d.rV, .int .i64 d.rD], .agg #[.bool d.rA, .int .i64 d.rS, .int .i64 d.rV, .int .i64 rd], .pointer (some ⟨w.heap.size, 19, none⟩), .pointer (some ⟨w.heap.size, 23, none⟩), .agg #[.int .i64 d.cX, .int .i64 d.cT, .int .i64 d.cD, .bool d.cF, .int .u32 d.cR], .pointer (some ⟨w.heap.size, 2, none⟩), .int .u32 d.una, .pointer (some ⟨w.heap.size, 4, none⟩), .int .u32 d.mx, .int .i64 dst, .int .i64 uw, .agg #[.int .i64 100, .int .i64 ct, .int .i64 0, .bool false, .int .u32 0], .pointer (some ⟨w.heap.size, 23, none⟩), .pointer (some ⟨w.heap.size, 28, none⟩), .int .i64 now, .pointer (some ⟨w.heap.size, 19, none⟩), .agg #[.bool d.rA, .int .i64 d.rS, .int .i64 d.rV, .int .i64 rd], .int .i64 wt, .int .i64 (now + wt), .pointer (some ⟨w.heap.size, 31, none⟩), .pointer (some ⟨w.heap.size, 0, none⟩), .int .i64 d.st, v142, v143, v144, v145, v146, .bool true, u148, u149, u150, u151, u152, u153, u154, u155, u156, u157, u158, u159, u160, u161, u162, u163, u164, u165, u166, u167, u168, u169, u170, u171, u172, u173, u174, u175, u176, u177, u178, u179, u180, u181, u182, u183, u184, u185, u186, u187], defers := [] } zw20 := by
              intro hor v142 v143 v144 v145 v146
              have hX : SV = (triedC d now, xs ++ [synSg (triedC d now) ps]) := hX1.out.trans (if_pos hor)
              clear hor
              rw [htC.out] at hX
              replace hX : Hid _ := hX
              have hsy := fun wx Rx => specSyn { d with trs := (d.trs + 1), rA := d.rA, rS := d.rS, rV := d.rV, rD := rd, cX := 100, cT := ct, cD := 0, cF := false, cR := 0, tmg := false, agn := (now + wt) } ps ok.gd wx Rx
              change ∀ wx, Rd shP wx d.pa d.pn ps → Calls Tryz.prog 28 #[.agg (cnCells { d with trs := (d.trs + 1), rA := d.rA, rS := d.rS, rV := d.rV, rD := rd, cX := 100, cT := ct, cD := 0, cF := false, cR := 0, tmg := false, agn := (now + wt) })] wx fun e w' => e = .returned (.agg (sgCells (synSg { d with trs := (d.trs + 1), rA := d.rA, rS := d.rS, rV := d.rV, rD := rd, cX := 100, cT := ct, cD := 0, cF := false, cR := 0, tmg := false, agn := (now + wt) } ps))) ∧ Since wx w' at hsy
              obtain ⟨S, hS⟩ : ∃ q, Hid (q = synSg { d with trs := (d.trs + 1), rA := d.rA, rS := d.rS, rV := d.rV, rD := rd, cX := 100, cT := ct, cD := 0, cF := false, cR := 0, tmg := false, agn := (now + wt) } ps) := ⟨_, rfl⟩
              rw [← hS.out] at hsy
              refine hKi.out _ _ ?_
              go_upto_region 25 with (fail)
              refine wp_region_doneV (fun f vals y => SynI w { d with trs := (d.trs + 1), rA := d.rA, rS := d.rS, rV := d.rV, rD := rd, cX := 100, cT := ct, cD := 0, cF := false, cR := 0, tmg := false, agn := (now + wt) } ps g gl n cl xs S f vals y) (fun v => { tmps := #[u0, .int .i64 now, .pointer (some ⟨w.heap.size, 0, none⟩), u3, .pointer (some ⟨w.heap.size + 1, 0, none⟩), v 7, .slice (some ⟨gl, 0, none⟩) n cl, u7, u8, u9, u10, u11, u12, u13, u14, u15, u16, u17, u18, u19, u20, u21, u22, u23, u24, u25, u26, u27, u28, u29, u30, u31, u32, u33, u34, u35, u36, u37, u38, u39, u40, u41, u42, u43, u44, u45, u46, u47, u48, u49, u50, u51, u52, u53, u54, u55, u56, u57, u58, u59, u60, u61, u62, u63, u64, u65, u66, u67, u68, u69, u70, u71, u72, u73, u74, u75, u76, u77, u78, u79, u80, u81, u82, u83, u84, u85, u86, u87, u88, u89, u90, u91, u92, u93, u94, u95, u96, u97, u98, u99, .pointer (some ⟨w.heap.size, 31, none⟩), .int .i64 d.agn, .bool true, .bool true, .pointer (some ⟨w.heap.size, 31, none⟩), .int .i64 d.agn, .int .i64 now, .bool true, .bool true, .pointer (some ⟨w.heap.size, 34, none⟩), .int .i64 d.trs, .bool false, u112, u113, u114, .pointer (some ⟨w.heap.size, 34, none⟩), .int .i64 d.trs, .int .i64 (d.trs + 1), .pointer (some ⟨w.heap.size, 34, none⟩), .pointer (some ⟨w.heap.size, 19, none⟩), .agg #[.bool d.rA, .int .i64 d.rS, .int .i64 d.rV, .int .i64 d.rD], .agg #[.bool d.rA, .int .i64 d.rS, .int .i64 d.rV, .int .i64 rd], .pointer (some ⟨w.heap.size, 19, none⟩), .pointer (some ⟨w.heap.size, 23, none⟩), .agg #[.int .i64 d.cX, .int .i64 d.cT, .int .i64 d.cD, .bool d.cF, .int .u32 d.cR], .pointer (some ⟨w.heap.size, 2, none⟩), .int .u32 d.una, .pointer (some ⟨w.heap.size, 4, none⟩), .int .u32 d.mx, .int .i64 dst, .int .i64 uw, .agg #[.int .i64 100, .int .i64 ct, .int .i64 0, .bool false, .int .u32 0], .pointer (some ⟨w.heap.size, 23, none⟩), .pointer (some ⟨w.heap.size, 28, none⟩), .int .i64 now, .pointer (some ⟨w.heap.size, 19, none⟩), .agg #[.bool d.rA, .int .i64 d.rS, .int .i64 d.rV, .int .i64 rd], .int .i64 wt, .int .i64 (now + wt), .pointer (some ⟨w.heap.size, 31, none⟩), .pointer (some ⟨w.heap.size, 0, none⟩), .int .i64 d.st, v142, v143, v144, v145, v146, .bool true, v 0, v 1, v 2, v 3, v 4, v 5, u154, u155, u156, u157, u158, u159, u160, u161, u162, u163, u164, u165, u166, u167, u168, u169, u170, u171, u172, u173, u174, u175, u176, u177, u178, u179, u180, u181, u182, u183, u184, u185, u186, u187], defers := [] }) (by kernel_rfl) (by kernel_rfl) ?_ (fun vals => by kernel_rfl) ?_ ?_
              case refine_1 =>
                intro f vals hf
                have q := (Since.refl zw20).drew
                refine ⟨G.trans q, zB22.since q, ⟨_, rfl, Z.since q⟩, ?_, H.since q, fun _ => L.since q, ?_, ?_, ?_, ?_, ?_, ?_, ?_, ?_, ?_⟩ <;> (intro e; rw [hf] at e; cases e)
              case refine_2 =>
                repeat (first | exact eachDoneV_nil | refine eachDoneV_cons ?_ ?_)
                all_goals intro f vals y hf hr hI
                all_goals simp [Region.binds] at hr
                · have e5 := hr.1
                  obtain ⟨g1, c1, v5, -⟩ := hI.v5 (by simp [hr])
                  have q := hI.at7 (by simp [hr])
                  rw [v5] at q
                  simp [does, doesUpon, go_sem, v5]
                  exact q
                · refine does_store cn_big (cn_size _) hI.Z (cn_one { d with trs := (d.trs + 1), rA := d.rA, rS := d.rS, rV := d.rV, rD := rd, cX := 100, cT := ct, cD := 0, cF := false, cR := 0, tmg := false, agn := (now + wt) }) _ _ rfl rfl (hI.v0 (by simp [hr])) ?_
                  intro z t B
                  exact hI.at6 hgl hgg t B
                · obtain ⟨z, v4, Y, hz1, hz2⟩ := hI.v4 (by simp [hr]) hf
                  have LL := hI.L hf
                  have LL_l := LL.lt
                  have HH_l := hI.H.lt
                  refine does_app_own laidG _ _ rfl (hI.v1 (by simp [hr])) LL v4 Y.reads (by decide) (by unfold maxLen; omega) (by omega) hI.G.size ?_
                  intro g1 c1 y2 O gr ho
                  exact hI.at5 hf (by simp [hr]) hgl hne (touch_grownG gr) O (own_or ho) HH_l
                · refine does_build1 S _ rfl (hI.v3 (by simp [hr])) ?_
                  exact hI.at4 hf
                · have v2 := hI.v2 (by simp [hr])
                  simp [does, doesUpon, go_sem, v2]
                  refine (hsy _ (by rw [pa]; exact hI.H.reads)).mono ?_
                  rintro _ y2 ⟨rfl, h1⟩
                  simp
                  exact hI.at3 h1
                · exact does_load cn_big (cn_size _) hI.A _ rfl rfl (hI.at2 (Since.refl _))
                · simp [does, doesUpon, go_sem]
                  exact hI.at1 (Since.refl _)
                · exact does_load cn_big (cn_size _) hI.A _ rfl rfl (hI.at0 (Since.refl _))
              case refine_3 =>
                intro f vals y hI hf
                have Z2 := hI.Z2 (hf 6 (by decide))
                obtain ⟨g1, c1, v5, O, q1, q2⟩ := hI.v5 (hf 5 (by decide))
                have v7 := (hI.v7 (hf 7 (by decide))).2
                rw [v5] at v7
                have HH := hI.H
                have GG := hI.G
                obtain ⟨z4, v4⟩ := hI.v4' (hf 4 (by decide))
                have v0 := hI.v0 (hf 0 (by decide))
                have v1 := hI.v1 (hf 1 (by decide))
                have v2 := hI.v2 (hf 2 (by decide))
                have v3 := hI.v3 (hf 3 (by decide))
                simp only [v0, v1, v2, v3, v4, v5, v7]
                clear v0 v1 v2 v3 v4 v5 v7 hI
                go_wp2_with (fail)
                refine bodyPost_ret (results_cn2 (t := 4) (u := 5) rfl _ rfl Z2) rfl ⟨g1, n + 1, c1, ?_, ?_, ?_, GG⟩
                · rw [hX.out]
                  rfl
                · rw [hX.out]
                  show Held shG y w.heap.size g1 (n + 1) c1 (xs ++ [synSg { d with trs := (d.trs + 1), rA := d.rA, rS := d.rS, rV := d.rV, rD := rd, cX := 100, cT := ct, cD := 0, cF := false, cR := 0, tmg := false, agn := (now + wt) } ps])
                  rw [← hS.out]
                  exact O
                · exact HH
            replace keyS : Hid _ := keyS
            cases b1
            case true =>
              have hs : d.st = 1 := by simpa using h1_.out.symm
              replace hs : Hid _ := hs
              refine vR ?_
              refine vV (.pointer (some ⟨w.heap.size, 0, none⟩)) ?_
              refine vD (.int .i64 d.st) (zB22.cell 0) ?_
              refine vV (.bool true) ?_ (hrun := by rw [show true = (d.st == 1) from h1_.out]; kernel_rfl)
              refine vV (.bool true) ?_
              refine vS ?_
              refine vS ?_
              refine vS ?_
              refine vV (.bool true) ?_
              refine vE #[u0,.int .i64 now,.pointer (some ⟨w.heap.size, 0, none⟩),u3,.pointer (some ⟨w.heap.size + 1, 0, none⟩),.slice none 0 0,.slice (some ⟨gl, 0, none⟩) n cl,u7,u8,u9,u10,u11,u12,u13,u14,u15,u16,u17,u18,u19,u20,u21,u22,u23,u24,u25,u26,u27,u28,u29,u30,u31,u32,u33,u34,u35,u36,u37,u38,u39,u40,u41,u42,u43,u44,u45,u46,u47,u48,u49,u50,u51,u52,u53,u54,u55,u56,u57,u58,u59,u60,u61,u62,u63,u64,u65,u66,u67,u68,u69,u70,u71,u72,u73,u74,u75,u76,u77,u78,u79,u80,u81,u82,u83,u84,u85,u86,u87,u88,u89,u90,u91,u92,u93,u94,u95,u96,u97,u98,u99,.pointer (some ⟨w.heap.size, 31, none⟩),.int .i64 d.agn,.bool true,.bool true,.pointer (some ⟨w.heap.size, 31, none⟩),.int .i64 d.agn,.int .i64 now,.bool true,.bool true,.pointer (some ⟨w.heap.size, 34, none⟩),.int .i64 d.trs,.bool false,u112,u113,u114,.pointer (some ⟨w.heap.size, 34, none⟩),.int .i64 d.trs,.int .i64 (d.trs + 1),.pointer (some ⟨w.heap.size, 34, none⟩),.pointer (some ⟨w.heap.size, 19, none⟩),.agg #[.bool d.rA, .int .i64 d.rS, .int .i64 d.rV, .int .i64 d.rD],.agg #[.bool d.rA, .int .i64 d.rS, .int .i64 d.rV, .int .i64 rd],.pointer (some ⟨w.heap.size, 19, none⟩),.pointer (some ⟨w.heap.size, 23, none⟩),.agg #[.int .i64 d.cX, .int .i64 d.cT, .int .i64 d.cD, .bool d.cF, .int .u32 d.cR],.pointer (some ⟨w.heap.size, 2, none⟩),.int .u32 d.una,.pointer (some ⟨w.heap.size, 4, none⟩),.int .u32 d.mx,.int .i64 dst,.int .i64 uw,.agg #[.int .i64 100, .int .i64 ct, .int .i64 0, .bool false, .int .u32 0],.pointer (some ⟨w.heap.size, 23, none⟩),.pointer (some ⟨w.heap.size, 28, none⟩),.int .i64 now,.pointer (some ⟨w.heap.size, 19, none⟩),.agg #[.bool d.rA, .int .i64 d.rS, .int .i64 d.rV, .int .i64 rd],.int .i64 wt,.int .i64 (now + wt),.pointer (some ⟨w.heap.size, 31, none⟩),.pointer (some ⟨w.heap.size, 0, none⟩),.int .i64 d.st,.bool true,.bool true,U,U,U,.bool true,u148,u149,u150,u151,u152,u153,u154,u155,u156,u157,u158,u159,u160,u161,u162,u163,u164,u165,u166,u167,u168,u169,u170,u171,u172,u173,u174,u175,u176,u177,u178,u179,u180,u181,u182,u183,u184,u185,u186,u187] ?_
              go_wp2_with (fail)
              exact keyS.out (.inl hs.out) _ _ _ _ _
            case false =>
              cases b2
              case true =>
                have hs : d.st = 2 := by simpa using h2_.out.symm
                replace hs : Hid _ := hs
                refine vR ?_
                refine vV (.pointer (some ⟨w.heap.size, 0, none⟩)) ?_
                refine vD (.int .i64 d.st) (zB22.cell 0) ?_
                refine vV (.bool false) ?_ (hrun := by rw [show false = (d.st == 1) from h1_.out]; kernel_rfl)
                refine vV (.bool false) ?_
                refine vV (.pointer (some ⟨w.heap.size, 0, none⟩)) ?_
                refine vD (.int .i64 d.st) (zB22.cell 0) ?_
                refine vV (.bool true) ?_ (hrun := by rw [show true = (d.st == 2) from h2_.out]; kernel_rfl)
                refine vV (.bool true) ?_
                refine vE #[u0,.int .i64 now,.pointer (some ⟨w.heap.size, 0, none⟩),u3,.pointer (some ⟨w.heap.size + 1, 0, none⟩),.slice none 0 0,.slice (some ⟨gl, 0, none⟩) n cl,u7,u8,u9,u10,u11,u12,u13,u14,u15,u16,u17,u18,u19,u20,u21,u22,u23,u24,u25,u26,u27,u28,u29,u30,u31,u32,u33,u34,u35,u36,u37,u38,u39,u40,u41,u42,u43,u44,u45,u46,u47,u48,u49,u50,u51,u52,u53,u54,u55,u56,u57,u58,u59,u60,u61,u62,u63,u64,u65,u66,u67,u68,u69,u70,u71,u72,u73,u74,u75,u76,u77,u78,u79,u80,u81,u82,u83,u84,u85,u86,u87,u88,u89,u90,u91,u92,u93,u94,u95,u96,u97,u98,u99,.pointer (some ⟨w.heap.size, 31, none⟩),.int .i64 d.agn,.bool true,.bool true,.pointer (some ⟨w.heap.size, 31, none⟩),.int .i64 d.agn,.int .i64 now,.bool true,.bool true,.pointer (some ⟨w.heap.size, 34, none⟩),.int .i64 d.trs,.bool false,u112,u113,u114,.pointer (some ⟨w.heap.size, 34, none⟩),.int .i64 d.trs,.int .i64 (d.trs + 1),.pointer (some ⟨w.heap.size, 34, none⟩),.pointer (some ⟨w.heap.size, 19, none⟩),.agg #[.bool d.rA, .int .i64 d.rS, .int .i64 d.rV, .int .i64 d.rD],.agg #[.bool d.rA, .int .i64 d.rS, .int .i64 d.rV, .int .i64 rd],.pointer (some ⟨w.heap.size, 19, none⟩),.pointer (some ⟨w.heap.size, 23, none⟩),.agg #[.int .i64 d.cX, .int .i64 d.cT, .int .i64 d.cD, .bool d.cF, .int .u32 d.cR],.pointer (some ⟨w.heap.size, 2, none⟩),.int .u32 d.una,.pointer (some ⟨w.heap.size, 4, none⟩),.int .u32 d.mx,.int .i64 dst,.int .i64 uw,.agg #[.int .i64 100, .int .i64 ct, .int .i64 0, .bool false, .int .u32 0],.pointer (some ⟨w.heap.size, 23, none⟩),.pointer (some ⟨w.heap.size, 28, none⟩),.int .i64 now,.pointer (some ⟨w.heap.size, 19, none⟩),.agg #[.bool d.rA, .int .i64 d.rS, .int .i64 d.rV, .int .i64 rd],.int .i64 wt,.int .i64 (now + wt),.pointer (some ⟨w.heap.size, 31, none⟩),.pointer (some ⟨w.heap.size, 0, none⟩),.int .i64 d.st,.bool false,.bool false,.pointer (some ⟨w.heap.size, 0, none⟩),.int .i64 d.st,.bool true,.bool true,u148,u149,u150,u151,u152,u153,u154,u155,u156,u157,u158,u159,u160,u161,u162,u163,u164,u165,u166,u167,u168,u169,u170,u171,u172,u173,u174,u175,u176,u177,u178,u179,u180,u181,u182,u183,u184,u185,u186,u187] ?_
                go_wp2_with (fail)
                exact keyS.out (.inr hs.out) _ _ _ _ _
              case false =>
                have hX2 : Hid (SV = backX ps now (triedC d now) xs) := hX1.out.trans (if_neg (by have q1 := h1_.out; have q2 := h2_.out; intro q; rcases q with q | q <;> simp [q] at q1 q2))
                refine vR ?_
                refine vV (.pointer (some ⟨w.heap.size, 0, none⟩)) ?_
                refine vD (.int .i64 d.st) (zB22.cell 0) ?_
                refine vV (.bool false) ?_ (hrun := by rw [show false = (d.st == 1) from h1_.out]; kernel_rfl)
                refine vV (.bool false) ?_
                refine vV (.pointer (some ⟨w.heap.size, 0, none⟩)) ?_
                refine vD (.int .i64 d.st) (zB22.cell 0) ?_
                refine vV (.bool false) ?_ (hrun := by rw [show false = (d.st == 2) from h2_.out]; kernel_rfl)
                refine vV (.bool false) ?_
                refine vE #[u0,.int .i64 now,.pointer (some ⟨w.heap.size, 0, none⟩),u3,.pointer (some ⟨w.heap.size + 1, 0, none⟩),.slice none 0 0,.slice (some ⟨gl, 0, none⟩) n cl,u7,u8,u9,u10,u11,u12,u13,u14,u15,u16,u17,u18,u19,u20,u21,u22,u23,u24,u25,u26,u27,u28,u29,u30,u31,u32,u33,u34,u35,u36,u37,u38,u39,u40,u41,u42,u43,u44,u45,u46,u47,u48,u49,u50,u51,u52,u53,u54,u55,u56,u57,u58,u59,u60,u61,u62,u63,u64,u65,u66,u67,u68,u69,u70,u71,u72,u73,u74,u75,u76,u77,u78,u79,u80,u81,u82,u83,u84,u85,u86,u87,u88,u89,u90,u91,u92,u93,u94,u95,u96,u97,u98,u99,.pointer (some ⟨w.heap.size, 31, none⟩),.int .i64 d.agn,.bool true,.bool true,.pointer (some ⟨w.heap.size, 31, none⟩),.int .i64 d.agn,.int .i64 now,.bool true,.bool true,.pointer (some ⟨w.heap.size, 34, none⟩),.int .i64 d.trs,.bool false,u112,u113,u114,.pointer (some ⟨w.heap.size, 34, none⟩),.int .i64 d.trs,.int .i64 (d.trs + 1),.pointer (some ⟨w.heap.size, 34, none⟩),.pointer (some ⟨w.heap.size, 19, none⟩),.agg #[.bool d.rA, .int .i64 d.rS, .int .i64 d.rV, .int .i64 d.rD],.agg #[.bool d.rA, .int .i64 d.rS, .int .i64 d.rV, .int .i64 rd],.pointer (some ⟨w.heap.size, 19, none⟩),.pointer (some ⟨w.heap.size, 23, none⟩),.agg #[.int .i64 d.cX, .int .i64 d.cT, .int .i64 d.cD, .bool d.cF, .int .u32 d.cR],.pointer (some ⟨w.heap.size, 2, none⟩),.int .u32 d.una,.pointer (some ⟨w.heap.size, 4, none⟩),.int .u32 d.mx,.int .i64 dst,.int .i64 uw,.agg #[.int .i64 100, .int .i64 ct, .int .i64 0, .bool false, .int .u32 0],.pointer (some ⟨w.heap.size, 23, none⟩),.pointer (some ⟨w.heap.size, 28, none⟩),.int .i64 now,.pointer (some ⟨w.heap.size, 19, none⟩),.agg #[.bool d.rA, .int .i64 d.rS, .int .i64 d.rV, .int .i64 rd],.int .i64 wt,.int .i64 (now + wt),.pointer (some ⟨w.heap.size, 31, none⟩),.pointer (some ⟨w.heap.size, 0, none⟩),.int .i64 d.st,.bool false,.bool false,.pointer (some ⟨w.heap.size, 0, none⟩),.int .i64 d.st,.bool false,.bool false,u148,u149,u150,u151,u152,u153,u154,u155,u156,u157,u158,u159,u160,u161,u162,u163,u164,u165,u166,u167,u168,u169,u170,u171,u172,u173,u174,u175,u176,u177,u178,u179,u180,u181,u182,u183,u184,u185,u186,u187] ?_
                go_wp2_with (fail)
                refine hKi.out _ _ ?_
                go_upto_region 26 with (fail)
                refine vR ?_
                refine vV (.pointer (some ⟨w.heap.size, 2, none⟩)) ?_
                refine vD (.int .u32 d.una) (zB22.cell 2) ?_
                refine vV (.pointer (some ⟨w.heap.size, 3, none⟩)) ?_
                refine sC (cnCells { d with trs := (d.trs + 1), rA := d.rA, rS := d.rS, rV := d.rV, rD := rd, cX := 100, cT := ct, cD := 0, cF := false, cR := 0, tmg := false, agn := (now + wt), nxt := d.una }) zB22 3 (.int .u32 d.una) (cn_size _) ?_
                intro zw23 zt24 zB25
                clear zB22
                replace Z := Z.touch zt24 (by omega)
                replace L := L.touch zt24 (by omega)
                replace H := H.touch zt24 (by omega)
                replace G := since_touch G zt24 (by omega)
                have zt24_s := zt24.size
                refine vE #[u0,.int .i64 now,.pointer (some ⟨w.heap.size, 0, none⟩),u3,.pointer (some ⟨w.heap.size + 1, 0, none⟩),.slice none 0 0,.slice (some ⟨gl, 0, none⟩) n cl,u7,u8,u9,u10,u11,u12,u13,u14,u15,u16,u17,u18,u19,u20,u21,u22,u23,u24,u25,u26,u27,u28,u29,u30,u31,u32,u33,u34,u35,u36,u37,u38,u39,u40,u41,u42,u43,u44,u45,u46,u47,u48,u49,u50,u51,u52,u53,u54,u55,u56,u57,u58,u59,u60,u61,u62,u63,u64,u65,u66,u67,u68,u69,u70,u71,u72,u73,u74,u75,u76,u77,u78,u79,u80,u81,u82,u83,u84,u85,u86,u87,u88,u89,u90,u91,u92,u93,u94,u95,u96,u97,u98,u99,.pointer (some ⟨w.heap.size, 31, none⟩),.int .i64 d.agn,.bool true,.bool true,.pointer (some ⟨w.heap.size, 31, none⟩),.int .i64 d.agn,.int .i64 now,.bool true,.bool true,.pointer (some ⟨w.heap.size, 34, none⟩),.int .i64 d.trs,.bool false,u112,u113,u114,.pointer (some ⟨w.heap.size, 34, none⟩),.int .i64 d.trs,.int .i64 (d.trs + 1),.pointer (some ⟨w.heap.size, 34, none⟩),.pointer (some ⟨w.heap.size, 19, none⟩),.agg #[.bool d.rA, .int .i64 d.rS, .int .i64 d.rV, .int .i64 d.rD],.agg #[.bool d.rA, .int .i64 d.rS, .int .i64 d.rV, .int .i64 rd],.pointer (some ⟨w.heap.size, 19, none⟩),.pointer (some ⟨w.heap.size, 23, none⟩),.agg #[.int .i64 d.cX, .int .i64 d.cT, .int .i64 d.cD, .bool d.cF, .int .u32 d.cR],.pointer (some ⟨w.heap.size, 2, none⟩),.int .u32 d.una,.pointer (some ⟨w.heap.size, 4, none⟩),.int .u32 d.mx,.int .i64 dst,.int .i64 uw,.agg #[.int .i64 100, .int .i64 ct, .int .i64 0, .bool false, .int .u32 0],.pointer (some ⟨w.heap.size, 23, none⟩),.pointer (some ⟨w.heap.size, 28, none⟩),.int .i64 now,.pointer (some ⟨w.heap.size, 19, none⟩),.agg #[.bool d.rA, .int .i64 d.rS, .int .i64 d.rV, .int .i64 rd],.int .i64 wt,.int .i64 (now + wt),.pointer (some ⟨w.heap.size, 31, none⟩),.pointer (some ⟨w.heap.size, 0, none⟩),.int .i64 d.st,.bool false,.bool false,.pointer (some ⟨w.heap.size, 0, none⟩),.int .i64 d.st,.bool false,.bool false,u148,u149,u150,u151,u152,u153,.pointer (some ⟨w.heap.size, 2, none⟩),.int .u32 d.una,.pointer (some ⟨w.heap.size, 3, none⟩),u157,u158,u159,u160,u161,u162,u163,u164,u165,u166,u167,u168,u169,u170,u171,u172,u173,u174,u175,u176,u177,u178,u179,u180,u181,u182,u183,u184,u185,u186,u187] ?_
                go_upto_region 27 with (fail)
                have hBD : Hid (backD (triedC d now) = { d with trs := (d.trs + 1), rA := d.rA, rS := d.rS, rV := d.rV, rD := rd, cX := 100, cT := ct, cD := 0, cF := false, cR := 0, tmg := false, agn := (now + wt), nxt := d.una }) := by
                  show _ = _
                  rw [htC.out]
                  rfl
                obtain ⟨bw, hbw⟩ : ∃ q, Hid (q = (d.wnd == 0)) := ⟨_, rfl⟩
                obtain ⟨bd, hbd⟩ : ∃ q, Hid (q = decide ((d.oD.size : Int) > 0)) := ⟨_, rfl⟩
                have hsh : Hid (shutB (triedC d now) = (bw && bd)) := by
                  show shutB d = _
                  unfold shutB
                  rw [hbw.out, hbd.out]
                  congr 1
                  by_cases e : d.oD = ByteArray.empty
                  · simp [e]
                  · have hp : 0 < d.oD.size := by
                      rcases Nat.eq_zero_or_pos d.oD.size with h | h
                      · exact absurd (empty_of h) e
                      · exact h
                    simp [e]
                    omega
                rename_i K9 hK9 Kj hKj
                replace hK9 : Hid _ := hK9
                have keyT : shutB d = false → ∀ v159 v160 v161 v162 v163 v164 v165 : Value, K9 { tmps := #[u0, .int .i64 now, .pointer (some ⟨w.heap.size, 0, none⟩), u3, .pointer (some ⟨w.heap.size + 1, 0, none⟩), .slice none 0 0, .slice (some ⟨gl, 0, none⟩) n cl, u7, u8, u9, u10, u11, u12, u13, u14, u15, u16, u17, u18, u19, u20, u21, u22, u23, u24, u25, u26, u27, u28, u29, u30, u31, u32, u33, u34, u35, u36, u37, u38, u39, u40, u41, u42, u43, u44, u45, u46, u47, u48, u49, u50, u51, u52, u53, u54, u55, u56, u57, u58, u59, u60, u61, u62, u63, u64, u65, u66, u67, u68, u69, u70, u71, u72, u73, u74, u75, u76, u77, u78, u79, u80, u81, u82, u83, u84, u85, u86, u87, u88, u89, u90, u91, u92, u93, u94, u95, u96, u97, u98, u99, .pointer (some ⟨w.heap.size, 31, none⟩), .int .i64 d.agn, .bool true, .bool true, .pointer (some ⟨w.heap.size, 31, none⟩), .int .i64 d.agn, .int .i64 now, .bool true, .bool true, .pointer (some ⟨w.heap.size, 34, none⟩), .int .i64 d.trs, .bool false, u112, u113, u114, .pointer (some ⟨w.heap.size, 34, none⟩), .int .i64 d.trs, .int .i64 (d.trs + 1), .pointer (some ⟨w.heap.size, 34, none⟩), .pointer (some ⟨w.heap.size, 19, none⟩), .agg #[.bool d.rA, .int .i64 d.rS, .int .i64 d.rV, .int .i64 d.rD], .agg #[.bool d.rA, .int .i64 d.rS, .int .i64 d.rV, .int .i64 rd], .pointer (some ⟨w.heap.size, 19, none⟩), .pointer (some ⟨w.heap.size, 23, none⟩), .agg #[.int .i64 d.cX, .int .i64 d.cT, .int .i64 d.cD, .bool d.cF, .int .u32 d.cR], .pointer (some ⟨w.heap.size, 2, none⟩), .int .u32 d.una, .pointer (some ⟨w.heap.size, 4, none⟩), .int .u32 d.mx, .int .i64 dst, .int .i64 uw, .agg #[.int .i64 100, .int .i64 ct, .int .i64 0, .bool false, .int .u32 0], .pointer (some ⟨w.heap.size, 23, none⟩), .pointer (some ⟨w.heap.size, 28, none⟩), .int .i64 now, .pointer (some ⟨w.heap.size, 19, none⟩), .agg #[.bool d.rA, .int .i64 d.rS, .int .i64 d.rV, .int .i64 rd], .int .i64 wt, .int .i64 (now + wt), .pointer (some ⟨w.heap.size, 31, none⟩), .pointer (some ⟨w.heap.size, 0, none⟩), .int .i64 d.st, .bool false, .bool false, .pointer (some ⟨w.heap.size, 0, none⟩), .int .i64 d.st, .bool false, .bool false, u148, u149, u150, u151, u152, u153, .pointer (some ⟨w.heap.size, 2, none⟩), .int .u32 d.una, .pointer (some ⟨w.heap.size, 3, none⟩), .pointer (some ⟨w.heap.size, 5, none⟩), .int .i64 d.wnd, v159, v160, v161, v162, v163, v164, v165, .bool false, u167, u168, u169, u170, u171, u172, u173, u174, u175, u176, u177, u178, u179, u180, u181, u182, u183, u184, u185, u186, u187], defers := [] } zw23 := by
                  intro hno v159 v160 v161 v162 v163 v164 v165
                  obtain ⟨rfl, rfl, rfl⟩ := hxs hno
                  have hms := mayS_tried ok now
                  rw [hBD.out] at hms
                  have hX : SV = sendV (backD (triedC d now)) ps now := by
                    rw [hX2.out]
                    unfold backX
                    rw [show shutB (triedC d now) = shutB d from rfl, hno]
                    rfl
                  rw [hBD.out] at hX
                  have hsl := fun wx Rx => specSendL { d with trs := (d.trs + 1), rA := d.rA, rS := d.rS, rV := d.rV, rD := rd, cX := 100, cT := ct, cD := 0, cF := false, cR := 0, tmg := false, agn := (now + wt), nxt := d.una } ps now hms h0 h1 wx Rx
                  rw [← hX] at hsl
                  have hln : SV.2.length ≤ 200000 := by rw [hX]; have := send_len hms (now := now); omega
                  clear hX hms hno
                  refine hK9.out _ _ ?_
                  go_upto_region 31 with (fail)
                  refine vR ?_
                  refine vB cn_big zB25 (cn_size _) ?_
                  refine vV (.int .i64 now) ?_
                  refine vC (hsl _ (by show Rd shP _ d.pa d.pn ps; rw [pa]; exact H.reads)) ?_
                  rintro _ zw26 ⟨gm, nm, cm, rfl, HM, zg27⟩
                  refine ⟨_, rfl, ?_⟩
                  replace zB25 := zB25.since zg27
                  replace Z := Z.since zg27
                  replace L := L.since zg27
                  replace H := H.since zg27
                  replace G := G.trans zg27
                  have zg27_s := zg27.size
                  have hHM0 := HM.low'
                  replace HM := HM.raise (show w.heap.size ≤ gm by omega)
                  have hHM := HM.lt
                  refine vV (.tuple #[.agg (cnCells SV.1), .slice (some ⟨gm, 0, none⟩) nm cm]) ?_
                  refine vV (.agg (cnCells SV.1)) ?_
                  refine vV (.slice (some ⟨gm, 0, none⟩) nm cm) ?_
                  refine vW (zw26.alloc (.cells (cnCells cnZero) 42)) (.pointer (some ⟨zw26.heap.size, 0, none⟩)) ?_
                  have zB29 := Blk.new zw26 (cnCells cnZero) 42
                  have zg30 := (Since.refl zw26).alloc (.cells (cnCells cnZero) 42)
                  replace zB25 := zB25.since zg30
                  replace Z := Z.since zg30
                  replace L := L.since zg30
                  replace H := H.since zg30
                  replace HM := HM.since zg30
                  replace G := G.trans zg30
                  generalize zw26.alloc (.cells (cnCells cnZero) 42) = zw28 at zB25 Z L H HM G zB29 zg30 ⊢
                  have zB29_l := zB29.lt
                  have zg30_s := zg30.size
                  refine sB (cnCells SV.1) cn_big zB29 (cn_size _) (cn_size _) (cn_one _) ?_
                  intro zw31 zt32 zB33
                  clear zB29
                  replace zB25 := zB25.touch zt32 (by omega)
                  replace Z := Z.touch zt32 (by omega)
                  replace L := L.touch zt32 (by omega)
                  replace H := H.touch zt32 (by omega)
                  replace HM := HM.touch zt32 (by omega)
                  replace G := since_touch G zt32 (by omega)
                  have zt32_s := zt32.size
                  refine vV (.slice (some ⟨gm, 0, none⟩) nm cm) ?_
                  refine vE #[u0,.int .i64 now,.pointer (some ⟨w.heap.size, 0, none⟩),u3,.pointer (some ⟨w.heap.size + 1, 0, none⟩),.slice none 0 0,.slice (some ⟨gl, 0, none⟩) 0 0,u7,.pointer (some ⟨zw26.heap.size, 0, none⟩),.slice (some ⟨gm, 0, none⟩) nm cm,u10,u11,u12,u13,u14,u15,u16,u17,u18,u19,u20,u21,u22,u23,u24,u25,u26,u27,u28,u29,u30,u31,u32,u33,u34,u35,u36,u37,u38,u39,u40,u41,u42,u43,u44,u45,u46,u47,u48,u49,u50,u51,u52,u53,u54,u55,u56,u57,u58,u59,u60,u61,u62,u63,u64,u65,u66,u67,u68,u69,u70,u71,u72,u73,u74,u75,u76,u77,u78,u79,u80,u81,u82,u83,u84,u85,u86,u87,u88,u89,u90,u91,u92,u93,u94,u95,u96,u97,u98,u99,.pointer (some ⟨w.heap.size, 31, none⟩),.int .i64 d.agn,.bool true,.bool true,.pointer (some ⟨w.heap.size, 31, none⟩),.int .i64 d.agn,.int .i64 now,.bool true,.bool true,.pointer (some ⟨w.heap.size, 34, none⟩),.int .i64 d.trs,.bool false,u112,u113,u114,.pointer (some ⟨w.heap.size, 34, none⟩),.int .i64 d.trs,.int .i64 (d.trs + 1),.pointer (some ⟨w.heap.size, 34, none⟩),.pointer (some ⟨w.heap.size, 19, none⟩),.agg #[.bool d.rA, .int .i64 d.rS, .int .i64 d.rV, .int .i64 d.rD],.agg #[.bool d.rA, .int .i64 d.rS, .int .i64 d.rV, .int .i64 rd],.pointer (some ⟨w.heap.size, 19, none⟩),.pointer (some ⟨w.heap.size, 23, none⟩),.agg #[.int .i64 d.cX, .int .i64 d.cT, .int .i64 d.cD, .bool d.cF, .int .u32 d.cR],.pointer (some ⟨w.heap.size, 2, none⟩),.int .u32 d.una,.pointer (some ⟨w.heap.size, 4, none⟩),.int .u32 d.mx,.int .i64 dst,.int .i64 uw,.agg #[.int .i64 100, .int .i64 ct, .int .i64 0, .bool false, .int .u32 0],.pointer (some ⟨w.heap.size, 23, none⟩),.pointer (some ⟨w.heap.size, 28, none⟩),.int .i64 now,.pointer (some ⟨w.heap.size, 19, none⟩),.agg #[.bool d.rA, .int .i64 d.rS, .int .i64 d.rV, .int .i64 rd],.int .i64 wt,.int .i64 (now + wt),.pointer (some ⟨w.heap.size, 31, none⟩),.pointer (some ⟨w.heap.size, 0, none⟩),.int .i64 d.st,.bool false,.bool false,.pointer (some ⟨w.heap.size, 0, none⟩),.int .i64 d.st,.bool false,.bool false,u148,u149,u150,u151,u152,u153,.pointer (some ⟨w.heap.size, 2, none⟩),.int .u32 d.una,.pointer (some ⟨w.heap.size, 3, none⟩),.pointer (some ⟨w.heap.size, 5, none⟩),.int .i64 d.wnd,v159,v160,v161,v162,v163,v164,v165,.bool false,u167,u168,u169,u170,u171,u172,u173,u174,u175,.tuple #[.agg (cnCells SV.1), .slice (some ⟨gm, 0, none⟩) nm cm],.agg (cnCells { d with trs := (d.trs + 1), rA := d.rA, rS := d.rS, rV := d.rV, rD := rd, cX := 100, cT := ct, cD := 0, cF := false, cR := 0, tmg := false, agn := (now + wt), nxt := d.una }),.int .i64 now,.tuple #[.agg (cnCells SV.1), .slice (some ⟨gm, 0, none⟩) nm cm],.agg (cnCells SV.1),.slice (some ⟨gm, 0, none⟩) nm cm,u182,u183,u184,u185,u186,u187] ?_
                  go_upto_region 32 with (fail)
                  have hRz : Raw (w.heap.size + 1) (cnCells SV.1).size zw31 := ⟨cnCells cnZero, rfl, Z⟩
                  have hnm : nm ≤ 200000 := by rw [← HM.len]; exact hln
                  refine wp_region_keep (wb := zw31) (w.heap.size + 1) (cnCells SV.1) (fun i x v => match i with
                      | 0 => v = .agg (cnCells SV.1)
                      | 1 => v = .slice (some ⟨gl, 0, none⟩) 0 0
                      | 2 => v = .slice (some ⟨gm, 0, none⟩) nm cm
                      | 3 => ∃ g1 c1, v = .slice (some ⟨g1, 0, none⟩) nm c1 ∧ Held shG x w.heap.size g1 nm c1 SV.2 ∧ g1 ≠ w.heap.size + 1
                      | 4 => Blk (w.heap.size + 1) x (cnCells SV.1)
                      | 5 => ∃ g1 c1, v = .slice (some ⟨g1, 0, none⟩) nm c1 ∧ Held shG x w.heap.size g1 nm c1 SV.2 ∧ g1 ≠ w.heap.size + 1
                      | _ => True) (fun v => { tmps := #[u0, .int .i64 now, .pointer (some ⟨w.heap.size, 0, none⟩), u3, .pointer (some ⟨w.heap.size + 1, 0, none⟩), v 5, .slice (some ⟨gl, 0, none⟩) 0 0, u7, .pointer (some ⟨zw26.heap.size, 0, none⟩), .slice (some ⟨gm, 0, none⟩) nm cm, u10, u11, u12, u13, u14, u15, u16, u17, u18, u19, u20, u21, u22, u23, u24, u25, u26, u27, u28, u29, u30, u31, u32, u33, u34, u35, u36, u37, u38, u39, u40, u41, u42, u43, u44, u45, u46, u47, u48, u49, u50, u51, u52, u53, u54, u55, u56, u57, u58, u59, u60, u61, u62, u63, u64, u65, u66, u67, u68, u69, u70, u71, u72, u73, u74, u75, u76, u77, u78, u79, u80, u81, u82, u83, u84, u85, u86, u87, u88, u89, u90, u91, u92, u93, u94, u95, u96, u97, u98, u99, .pointer (some ⟨w.heap.size, 31, none⟩), .int .i64 d.agn, .bool true, .bool true, .pointer (some ⟨w.heap.size, 31, none⟩), .int .i64 d.agn, .int .i64 now, .bool true, .bool true, .pointer (some ⟨w.heap.size, 34, none⟩), .int .i64 d.trs, .bool false, u112, u113, u114, .pointer (some ⟨w.heap.size, 34, none⟩), .int .i64 d.trs, .int .i64 (d.trs + 1), .pointer (some ⟨w.heap.size, 34, none⟩), .pointer (some ⟨w.heap.size, 19, none⟩), .agg #[.bool d.rA, .int .i64 d.rS, .int .i64 d.rV, .int .i64 d.rD], .agg #[.bool d.rA, .int .i64 d.rS, .int .i64 d.rV, .int .i64 rd], .pointer (some ⟨w.heap.size, 19, none⟩), .pointer (some ⟨w.heap.size, 23, none⟩), .agg #[.int .i64 d.cX, .int .i64 d.cT, .int .i64 d.cD, .bool d.cF, .int .u32 d.cR], .pointer (some ⟨w.heap.size, 2, none⟩), .int .u32 d.una, .pointer (some ⟨w.heap.size, 4, none⟩), .int .u32 d.mx, .int .i64 dst, .int .i64 uw, .agg #[.int .i64 100, .int .i64 ct, .int .i64 0, .bool false, .int .u32 0], .pointer (some ⟨w.heap.size, 23, none⟩), .pointer (some ⟨w.heap.size, 28, none⟩), .int .i64 now, .pointer (some ⟨w.heap.size, 19, none⟩), .agg #[.bool d.rA, .int .i64 d.rS, .int .i64 d.rV, .int .i64 rd], .int .i64 wt, .int .i64 (now + wt), .pointer (some ⟨w.heap.size, 31, none⟩), .pointer (some ⟨w.heap.size, 0, none⟩), .int .i64 d.st, .bool false, .bool false, .pointer (some ⟨w.heap.size, 0, none⟩), .int .i64 d.st, .bool false, .bool false, u148, u149, u150, u151, u152, u153, .pointer (some ⟨w.heap.size, 2, none⟩), .int .u32 d.una, .pointer (some ⟨w.heap.size, 3, none⟩), .pointer (some ⟨w.heap.size, 5, none⟩), .int .i64 d.wnd, v159, v160, v161, v162, v163, v164, v165, .bool false, u167, u168, u169, u170, u171, u172, u173, u174, u175, .tuple #[.agg (cnCells SV.1), .slice (some ⟨gm, 0, none⟩) nm cm], .agg (cnCells { d with trs := (d.trs + 1), rA := d.rA, rS := d.rS, rV := d.rV, rD := rd, cX := 100, cT := ct, cD := 0, cF := false, cR := 0, tmg := false, agn := (now + wt), nxt := d.una }), .int .i64 now, .tuple #[.agg (cnCells SV.1), .slice (some ⟨gm, 0, none⟩) nm cm], .agg (cnCells SV.1), .slice (some ⟨gm, 0, none⟩) nm cm, v 0, v 1, v 2, v 3, u186, u187], defers := [] }) (by kernel_rfl) (by kernel_rfl) (by kernel_rfl) (KeepB.refl _ _ _) ?_ (fun vals => by kernel_rfl) ?_ ?_
                  case refine_1 =>
                    intro j x y v h1 h2
                    match j, h2 with
                    | 4, h2 => exact h1.done h2
                    | 3, ⟨g1, c1, e, T, q⟩ | 5, ⟨g1, c1, e, T, q⟩ => exact ⟨g1, c1, e, T.touch h1.touch q, q⟩
                    | 0, h2 | 1, h2 | 2, h2 => exact h2
                    | n + 6, _ => trivial
                  case refine_2 =>
                    repeat (first | exact eachDoesR_nil | refine eachDoesR_cons ?_ ?_)
                    all_goals intro vals x hx hv
                    all_goals simp [Region.binds] at hv
                    · obtain ⟨⟨g1, c1, e, T, q⟩, -⟩ := hv
                      simp [does, doesUpon, go_sem, e, KeepB.refl]
                      first | exact ⟨g1, c1, ⟨rfl, rfl⟩, T, q⟩ | exact ⟨g1, c1, rfl, T, q⟩
                    · refine does_store cn_big (cn_size _) (hx.raw hRz) (cn_one _) _ _ rfl rfl hv.1 ?_
                      intro z t B
                      exact ⟨keep_of t B, B⟩
                    · have LL := (L.touch hx.touch (by omega)).raise (show w.heap.size + 2 ≤ gl by omega)
                      have MM := HM.touch hx.touch (by omega)
                      refine does_app_empty laidG _ _ rfl hv.1 LL hv.2 MM.reads (fun h => by cases h) (by omega) ?_ ?_
                      · have := hx.touch.size
                        omega
                      intro g1 c1 y2 O s
                      have := O.low'
                      exact ⟨KeepB.of_since s, g1, c1, rfl, O.raise (by omega), by omega⟩
                    · simp [does, doesUpon, go_sem, KeepB.refl]
                    · simp [does, doesUpon, go_sem, KeepB.refl]
                    · exact does_load cn_big (cn_size _) (zB33.touch hx.touch (by omega)) _ rfl rfl ⟨KeepB.refl _ _ _, rfl⟩
                  case refine_3 =>
                    intro vals y hx hv
                    have Zb : Blk (w.heap.size + 1) y (cnCells SV.1) := hv 4 (by decide)
                    obtain ⟨g1, c1, hv3, -, -⟩ := hv 3 (by decide)
                    obtain ⟨g2, c2, hv5, O, -⟩ := hv 5 (by decide)
                    have hv0 : vals 0 = _ := hv 0 (by decide)
                    have hv1 : vals 1 = _ := hv 1 (by decide)
                    have hv2 : vals 2 = _ := hv 2 (by decide)
                    simp only [hv0, hv1, hv2, hv3, hv5]
                    clear hv hv0 hv1 hv2 hv3 hv5
                    have HH := H.touch hx.touch (by omega)
                    have GG := since_touch G hx.touch (by omega)
                    go_wp2_with (fail)
                    exact bodyPost_ret (results_cn2 (t := 4) (u := 5) rfl _ rfl Zb) rfl ⟨g2, nm, c2, rfl, O, HH, GG⟩
                replace keyT : Hid _ := keyT
                cases bw
                case false =>
                  have hno : shutB d = false := by
                    have q := hsh.out
                    rw [show shutB (triedC d now) = shutB d from rfl] at q
                    rw [q]
                    rfl
                  replace hno : Hid _ := hno
                  refine vR ?_
                  refine vV (.pointer (some ⟨w.heap.size, 5, none⟩)) ?_
                  refine vD (.int .i64 d.wnd) (zB25.cell 5) ?_
                  refine vV (.bool false) ?_ (hrun := by rw [show false = (d.wnd == 0) from hbw.out]; kernel_rfl)
                  refine vV (.bool false) ?_
                  refine vS ?_
                  refine vS ?_
                  refine vS ?_
                  refine vS ?_
                  refine vS ?_
                  refine vV (.bool false) ?_
                  refine vE #[u0,.int .i64 now,.pointer (some ⟨w.heap.size, 0, none⟩),u3,.pointer (some ⟨w.heap.size + 1, 0, none⟩),.slice none 0 0,.slice (some ⟨gl, 0, none⟩) n cl,u7,u8,u9,u10,u11,u12,u13,u14,u15,u16,u17,u18,u19,u20,u21,u22,u23,u24,u25,u26,u27,u28,u29,u30,u31,u32,u33,u34,u35,u36,u37,u38,u39,u40,u41,u42,u43,u44,u45,u46,u47,u48,u49,u50,u51,u52,u53,u54,u55,u56,u57,u58,u59,u60,u61,u62,u63,u64,u65,u66,u67,u68,u69,u70,u71,u72,u73,u74,u75,u76,u77,u78,u79,u80,u81,u82,u83,u84,u85,u86,u87,u88,u89,u90,u91,u92,u93,u94,u95,u96,u97,u98,u99,.pointer (some ⟨w.heap.size, 31, none⟩),.int .i64 d.agn,.bool true,.bool true,.pointer (some ⟨w.heap.size, 31, none⟩),.int .i64 d.agn,.int .i64 now,.bool true,.bool true,.pointer (some ⟨w.heap.size, 34, none⟩),.int .i64 d.trs,.bool false,u112,u113,u114,.pointer (some ⟨w.heap.size, 34, none⟩),.int .i64 d.trs,.int .i64 (d.trs + 1),.pointer (some ⟨w.heap.size, 34, none⟩),.pointer (some ⟨w.heap.size, 19, none⟩),.agg #[.bool d.rA, .int .i64 d.rS, .int .i64 d.rV, .int .i64 d.rD],.agg #[.bool d.rA, .int .i64 d.rS, .int .i64 d.rV, .int .i64 rd],.pointer (some ⟨w.heap.size, 19, none⟩),.pointer (some ⟨w.heap.size, 23, none⟩),.agg #[.int .i64 d.cX, .int .i64 d.cT, .int .i64 d.cD, .bool d.cF, .int .u32 d.cR],.pointer (some ⟨w.heap.size, 2, none⟩),.int .u32 d.una,.pointer (some ⟨w.heap.size, 4, none⟩),.int .u32 d.mx,.int .i64 dst,.int .i64 uw,.agg #[.int .i64 100, .int .i64 ct, .int .i64 0, .bool false, .int .u32 0],.pointer (some ⟨w.heap.size, 23, none⟩),.pointer (some ⟨w.heap.size, 28, none⟩),.int .i64 now,.pointer (some ⟨w.heap.size, 19, none⟩),.agg #[.bool d.rA, .int .i64 d.rS, .int .i64 d.rV, .int .i64 rd],.int .i64 wt,.int .i64 (now + wt),.pointer (some ⟨w.heap.size, 31, none⟩),.pointer (some ⟨w.heap.size, 0, none⟩),.int .i64 d.st,.bool false,.bool false,.pointer (some ⟨w.heap.size, 0, none⟩),.int .i64 d.st,.bool false,.bool false,u148,u149,u150,u151,u152,u153,.pointer (some ⟨w.heap.size, 2, none⟩),.int .u32 d.una,.pointer (some ⟨w.heap.size, 3, none⟩),.pointer (some ⟨w.heap.size, 5, none⟩),.int .i64 d.wnd,.bool false,.bool false,U,U,U,U,U,.bool false,u167,u168,u169,u170,u171,u172,u173,u174,u175,u176,u177,u178,u179,u180,u181,u182,u183,u184,u185,u186,u187] ?_
                  go_wp2_with (fail)
                  exact keyT.out hno.out _ _ _ _ _ _ _
                case true =>
                  cases bd
                  case false =>
                    have hno : shutB d = false := by
                      have q := hsh.out
                      rw [show shutB (triedC d now) = shutB d from rfl] at q
                      rw [q]
                      rfl
                    replace hno : Hid _ := hno
                    refine vR ?_
                    refine vV (.pointer (some ⟨w.heap.size, 5, none⟩)) ?_
                    refine vD (.int .i64 d.wnd) (zB25.cell 5) ?_
                    refine vV (.bool true) ?_ (hrun := by rw [show true = (d.wnd == 0) from hbw.out]; kernel_rfl)
                    refine vV (.bool true) ?_
                    refine vV (.pointer (some ⟨w.heap.size, 8, none⟩)) ?_
                    refine vV (.pointer (some ⟨w.heap.size, 9, none⟩)) ?_
                    refine vD (.string d.oD) (zB25.cell 9) ?_
                    refine vV (.int .i64 (d.oD.size : Int)) ?_ (hrun := by simp [go_sem])
                    refine vV (.bool false) ?_ (hrun := by rw [show false = decide ((d.oD.size : Int) > 0) from hbd.out]; kernel_rfl)
                    refine vV (.bool false) ?_
                    refine vE #[u0,.int .i64 now,.pointer (some ⟨w.heap.size, 0, none⟩),u3,.pointer (some ⟨w.heap.size + 1, 0, none⟩),.slice none 0 0,.slice (some ⟨gl, 0, none⟩) n cl,u7,u8,u9,u10,u11,u12,u13,u14,u15,u16,u17,u18,u19,u20,u21,u22,u23,u24,u25,u26,u27,u28,u29,u30,u31,u32,u33,u34,u35,u36,u37,u38,u39,u40,u41,u42,u43,u44,u45,u46,u47,u48,u49,u50,u51,u52,u53,u54,u55,u56,u57,u58,u59,u60,u61,u62,u63,u64,u65,u66,u67,u68,u69,u70,u71,u72,u73,u74,u75,u76,u77,u78,u79,u80,u81,u82,u83,u84,u85,u86,u87,u88,u89,u90,u91,u92,u93,u94,u95,u96,u97,u98,u99,.pointer (some ⟨w.heap.size, 31, none⟩),.int .i64 d.agn,.bool true,.bool true,.pointer (some ⟨w.heap.size, 31, none⟩),.int .i64 d.agn,.int .i64 now,.bool true,.bool true,.pointer (some ⟨w.heap.size, 34, none⟩),.int .i64 d.trs,.bool false,u112,u113,u114,.pointer (some ⟨w.heap.size, 34, none⟩),.int .i64 d.trs,.int .i64 (d.trs + 1),.pointer (some ⟨w.heap.size, 34, none⟩),.pointer (some ⟨w.heap.size, 19, none⟩),.agg #[.bool d.rA, .int .i64 d.rS, .int .i64 d.rV, .int .i64 d.rD],.agg #[.bool d.rA, .int .i64 d.rS, .int .i64 d.rV, .int .i64 rd],.pointer (some ⟨w.heap.size, 19, none⟩),.pointer (some ⟨w.heap.size, 23, none⟩),.agg #[.int .i64 d.cX, .int .i64 d.cT, .int .i64 d.cD, .bool d.cF, .int .u32 d.cR],.pointer (some ⟨w.heap.size, 2, none⟩),.int .u32 d.una,.pointer (some ⟨w.heap.size, 4, none⟩),.int .u32 d.mx,.int .i64 dst,.int .i64 uw,.agg #[.int .i64 100, .int .i64 ct, .int .i64 0, .bool false, .int .u32 0],.pointer (some ⟨w.heap.size, 23, none⟩),.pointer (some ⟨w.heap.size, 28, none⟩),.int .i64 now,.pointer (some ⟨w.heap.size, 19, none⟩),.agg #[.bool d.rA, .int .i64 d.rS, .int .i64 d.rV, .int .i64 rd],.int .i64 wt,.int .i64 (now + wt),.pointer (some ⟨w.heap.size, 31, none⟩),.pointer (some ⟨w.heap.size, 0, none⟩),.int .i64 d.st,.bool false,.bool false,.pointer (some ⟨w.heap.size, 0, none⟩),.int .i64 d.st,.bool false,.bool false,u148,u149,u150,u151,u152,u153,.pointer (some ⟨w.heap.size, 2, none⟩),.int .u32 d.una,.pointer (some ⟨w.heap.size, 3, none⟩),.pointer (some ⟨w.heap.size, 5, none⟩),.int .i64 d.wnd,.bool true,.bool true,.pointer (some ⟨w.heap.size, 8, none⟩),.pointer (some ⟨w.heap.size, 9, none⟩),.string d.oD,.int .i64 (d.oD.size : Int),.bool false,.bool false,u167,u168,u169,u170,u171,u172,u173,u174,u175,u176,u177,u178,u179,u180,u181,u182,u183,u184,u185,u186,u187] ?_
                    go_wp2_with (fail)
                    exact keyT.out hno.out _ _ _ _ _ _ _
                  case true =>
                    have hX : SV = ({ backD (triedC d now) with agn := 0, prb := now + waitOf d.rA d.rS d.rV rd }, xs) := by
                      rw [hX2.out]
                      unfold backX
                      rw [hsh.out, hrd.out]
                      rfl
                    rw [← hwt.out, hBD.out] at hX
                    replace hX : Hid _ := hX
                    refine vR ?_
                    refine vV (.pointer (some ⟨w.heap.size, 5, none⟩)) ?_
                    refine vD (.int .i64 d.wnd) (zB25.cell 5) ?_
                    refine vV (.bool true) ?_ (hrun := by rw [show true = (d.wnd == 0) from hbw.out]; kernel_rfl)
                    refine vV (.bool true) ?_
                    refine vV (.pointer (some ⟨w.heap.size, 8, none⟩)) ?_
                    refine vV (.pointer (some ⟨w.heap.size, 9, none⟩)) ?_
                    refine vD (.string d.oD) (zB25.cell 9) ?_
                    refine vV (.int .i64 (d.oD.size : Int)) ?_ (hrun := by simp [go_sem])
                    refine vV (.bool true) ?_ (hrun := by rw [show true = decide ((d.oD.size : Int) > 0) from hbd.out]; kernel_rfl)
                    refine vV (.bool true) ?_
                    refine vE #[u0,.int .i64 now,.pointer (some ⟨w.heap.size, 0, none⟩),u3,.pointer (some ⟨w.heap.size + 1, 0, none⟩),.slice none 0 0,.slice (some ⟨gl, 0, none⟩) n cl,u7,u8,u9,u10,u11,u12,u13,u14,u15,u16,u17,u18,u19,u20,u21,u22,u23,u24,u25,u26,u27,u28,u29,u30,u31,u32,u33,u34,u35,u36,u37,u38,u39,u40,u41,u42,u43,u44,u45,u46,u47,u48,u49,u50,u51,u52,u53,u54,u55,u56,u57,u58,u59,u60,u61,u62,u63,u64,u65,u66,u67,u68,u69,u70,u71,u72,u73,u74,u75,u76,u77,u78,u79,u80,u81,u82,u83,u84,u85,u86,u87,u88,u89,u90,u91,u92,u93,u94,u95,u96,u97,u98,u99,.pointer (some ⟨w.heap.size, 31, none⟩),.int .i64 d.agn,.bool true,.bool true,.pointer (some ⟨w.heap.size, 31, none⟩),.int .i64 d.agn,.int .i64 now,.bool true,.bool true,.pointer (some ⟨w.heap.size, 34, none⟩),.int .i64 d.trs,.bool false,u112,u113,u114,.pointer (some ⟨w.heap.size, 34, none⟩),.int .i64 d.trs,.int .i64 (d.trs + 1),.pointer (some ⟨w.heap.size, 34, none⟩),.pointer (some ⟨w.heap.size, 19, none⟩),.agg #[.bool d.rA, .int .i64 d.rS, .int .i64 d.rV, .int .i64 d.rD],.agg #[.bool d.rA, .int .i64 d.rS, .int .i64 d.rV, .int .i64 rd],.pointer (some ⟨w.heap.size, 19, none⟩),.pointer (some ⟨w.heap.size, 23, none⟩),.agg #[.int .i64 d.cX, .int .i64 d.cT, .int .i64 d.cD, .bool d.cF, .int .u32 d.cR],.pointer (some ⟨w.heap.size, 2, none⟩),.int .u32 d.una,.pointer (some ⟨w.heap.size, 4, none⟩),.int .u32 d.mx,.int .i64 dst,.int .i64 uw,.agg #[.int .i64 100, .int .i64 ct, .int .i64 0, .bool false, .int .u32 0],.pointer (some ⟨w.heap.size, 23, none⟩),.pointer (some ⟨w.heap.size, 28, none⟩),.int .i64 now,.pointer (some ⟨w.heap.size, 19, none⟩),.agg #[.bool d.rA, .int .i64 d.rS, .int .i64 d.rV, .int .i64 rd],.int .i64 wt,.int .i64 (now + wt),.pointer (some ⟨w.heap.size, 31, none⟩),.pointer (some ⟨w.heap.size, 0, none⟩),.int .i64 d.st,.bool false,.bool false,.pointer (some ⟨w.heap.size, 0, none⟩),.int .i64 d.st,.bool false,.bool false,u148,u149,u150,u151,u152,u153,.pointer (some ⟨w.heap.size, 2, none⟩),.int .u32 d.una,.pointer (some ⟨w.heap.size, 3, none⟩),.pointer (some ⟨w.heap.size, 5, none⟩),.int .i64 d.wnd,.bool true,.bool true,.pointer (some ⟨w.heap.size, 8, none⟩),.pointer (some ⟨w.heap.size, 9, none⟩),.string d.oD,.int .i64 (d.oD.size : Int),.bool true,.bool true,u167,u168,u169,u170,u171,u172,u173,u174,u175,u176,u177,u178,u179,u180,u181,u182,u183,u184,u185,u186,u187] ?_
                    go_upto_region 28 with (fail)
                    refine vR ?_
                    refine vV (.pointer (some ⟨w.heap.size, 31, none⟩)) ?_
                    refine sC (cnCells { d with trs := (d.trs + 1), rA := d.rA, rS := d.rS, rV := d.rV, rD := rd, cX := 100, cT := ct, cD := 0, cF := false, cR := 0, tmg := false, nxt := d.una, agn := 0 }) zB25 31 (.int .i64 0) (cn_size _) ?_
                    intro zw26 zt27 zB28
                    clear zB25
                    replace Z := Z.touch zt27 (by omega)
                    replace L := L.touch zt27 (by omega)
                    replace H := H.touch zt27 (by omega)
                    replace G := since_touch G zt27 (by omega)
                    have zt27_s := zt27.size
                    refine vE #[u0,.int .i64 now,.pointer (some ⟨w.heap.size, 0, none⟩),u3,.pointer (some ⟨w.heap.size + 1, 0, none⟩),.slice none 0 0,.slice (some ⟨gl, 0, none⟩) n cl,u7,u8,u9,u10,u11,u12,u13,u14,u15,u16,u17,u18,u19,u20,u21,u22,u23,u24,u25,u26,u27,u28,u29,u30,u31,u32,u33,u34,u35,u36,u37,u38,u39,u40,u41,u42,u43,u44,u45,u46,u47,u48,u49,u50,u51,u52,u53,u54,u55,u56,u57,u58,u59,u60,u61,u62,u63,u64,u65,u66,u67,u68,u69,u70,u71,u72,u73,u74,u75,u76,u77,u78,u79,u80,u81,u82,u83,u84,u85,u86,u87,u88,u89,u90,u91,u92,u93,u94,u95,u96,u97,u98,u99,.pointer (some ⟨w.heap.size, 31, none⟩),.int .i64 d.agn,.bool true,.bool true,.pointer (some ⟨w.heap.size, 31, none⟩),.int .i64 d.agn,.int .i64 now,.bool true,.bool true,.pointer (some ⟨w.heap.size, 34, none⟩),.int .i64 d.trs,.bool false,u112,u113,u114,.pointer (some ⟨w.heap.size, 34, none⟩),.int .i64 d.trs,.int .i64 (d.trs + 1),.pointer (some ⟨w.heap.size, 34, none⟩),.pointer (some ⟨w.heap.size, 19, none⟩),.agg #[.bool d.rA, .int .i64 d.rS, .int .i64 d.rV, .int .i64 d.rD],.agg #[.bool d.rA, .int .i64 d.rS, .int .i64 d.rV, .int .i64 rd],.pointer (some ⟨w.heap.size, 19, none⟩),.pointer (some ⟨w.heap.size, 23, none⟩),.agg #[.int .i64 d.cX, .int .i64 d.cT, .int .i64 d.cD, .bool d.cF, .int .u32 d.cR],.pointer (some ⟨w.heap.size, 2, none⟩),.int .u32 d.una,.pointer (some ⟨w.heap.size, 4, none⟩),.int .u32 d.mx,.int .i64 dst,.int .i64 uw,.agg #[.int .i64 100, .int .i64 ct, .int .i64 0, .bool false, .int .u32 0],.pointer (some ⟨w.heap.size, 23, none⟩),.pointer (some ⟨w.heap.size, 28, none⟩),.int .i64 now,.pointer (some ⟨w.heap.size, 19, none⟩),.agg #[.bool d.rA, .int .i64 d.rS, .int .i64 d.rV, .int .i64 rd],.int .i64 wt,.int .i64 (now + wt),.pointer (some ⟨w.heap.size, 31, none⟩),.pointer (some ⟨w.heap.size, 0, none⟩),.int .i64 d.st,.bool false,.bool false,.pointer (some ⟨w.heap.size, 0, none⟩),.int .i64 d.st,.bool false,.bool false,u148,u149,u150,u151,u152,u153,.pointer (some ⟨w.heap.size, 2, none⟩),.int .u32 d.una,.pointer (some ⟨w.heap.size, 3, none⟩),.pointer (some ⟨w.heap.size, 5, none⟩),.int .i64 d.wnd,.bool true,.bool true,.pointer (some ⟨w.heap.size, 8, none⟩),.pointer (some ⟨w.heap.size, 9, none⟩),.string d.oD,.int .i64 (d.oD.size : Int),.bool true,.bool true,.pointer (some ⟨w.heap.size, 31, none⟩),u168,u169,u170,u171,u172,u173,u174,u175,u176,u177,u178,u179,u180,u181,u182,u183,u184,u185,u186,u187] ?_
                    go_upto_region 29 with (fail)
                    refine vR ?_
                    refine vV (.int .i64 now) ?_
                    refine vV (.pointer (some ⟨w.heap.size, 19, none⟩)) ?_
                    refine vP pRtt_big zB28 19 [.bool d.rA, .int .i64 d.rS, .int .i64 d.rV, .int .i64 rd] ?_
                    refine vK (hww _) ?_
                    intro zw29 zg30
                    replace zB28 := zB28.since zg30
                    replace Z := Z.since zg30
                    replace L := L.since zg30
                    replace H := H.since zg30
                    replace G := G.trans zg30
                    have zg30_s := zg30.size
                    refine vV (.int .i64 (now + wt)) ?_ (hrun := by rw [← hsm.out]; kernel_rfl)
                    refine vV (.pointer (some ⟨w.heap.size, 32, none⟩)) ?_
                    refine sC (cnCells { d with trs := (d.trs + 1), rA := d.rA, rS := d.rS, rV := d.rV, rD := rd, cX := 100, cT := ct, cD := 0, cF := false, cR := 0, tmg := false, nxt := d.una, agn := 0, prb := (now + wt) }) zB28 32 (.int .i64 (now + wt)) (cn_size _) ?_
                    intro zw31 zt32 zB33
                    clear zB28
                    replace Z := Z.touch zt32 (by omega)
                    replace L := L.touch zt32 (by omega)
                    replace H := H.touch zt32 (by omega)
                    replace G := since_touch G zt32 (by omega)
                    have zt32_s := zt32.size
                    refine vE #[u0,.int .i64 now,.pointer (some ⟨w.heap.size, 0, none⟩),u3,.pointer (some ⟨w.heap.size + 1, 0, none⟩),.slice none 0 0,.slice (some ⟨gl, 0, none⟩) n cl,u7,u8,u9,u10,u11,u12,u13,u14,u15,u16,u17,u18,u19,u20,u21,u22,u23,u24,u25,u26,u27,u28,u29,u30,u31,u32,u33,u34,u35,u36,u37,u38,u39,u40,u41,u42,u43,u44,u45,u46,u47,u48,u49,u50,u51,u52,u53,u54,u55,u56,u57,u58,u59,u60,u61,u62,u63,u64,u65,u66,u67,u68,u69,u70,u71,u72,u73,u74,u75,u76,u77,u78,u79,u80,u81,u82,u83,u84,u85,u86,u87,u88,u89,u90,u91,u92,u93,u94,u95,u96,u97,u98,u99,.pointer (some ⟨w.heap.size, 31, none⟩),.int .i64 d.agn,.bool true,.bool true,.pointer (some ⟨w.heap.size, 31, none⟩),.int .i64 d.agn,.int .i64 now,.bool true,.bool true,.pointer (some ⟨w.heap.size, 34, none⟩),.int .i64 d.trs,.bool false,u112,u113,u114,.pointer (some ⟨w.heap.size, 34, none⟩),.int .i64 d.trs,.int .i64 (d.trs + 1),.pointer (some ⟨w.heap.size, 34, none⟩),.pointer (some ⟨w.heap.size, 19, none⟩),.agg #[.bool d.rA, .int .i64 d.rS, .int .i64 d.rV, .int .i64 d.rD],.agg #[.bool d.rA, .int .i64 d.rS, .int .i64 d.rV, .int .i64 rd],.pointer (some ⟨w.heap.size, 19, none⟩),.pointer (some ⟨w.heap.size, 23, none⟩),.agg #[.int .i64 d.cX, .int .i64 d.cT, .int .i64 d.cD, .bool d.cF, .int .u32 d.cR],.pointer (some ⟨w.heap.size, 2, none⟩),.int .u32 d.una,.pointer (some ⟨w.heap.size, 4, none⟩),.int .u32 d.mx,.int .i64 dst,.int .i64 uw,.agg #[.int .i64 100, .int .i64 ct, .int .i64 0, .bool false, .int .u32 0],.pointer (some ⟨w.heap.size, 23, none⟩),.pointer (some ⟨w.heap.size, 28, none⟩),.int .i64 now,.pointer (some ⟨w.heap.size, 19, none⟩),.agg #[.bool d.rA, .int .i64 d.rS, .int .i64 d.rV, .int .i64 rd],.int .i64 wt,.int .i64 (now + wt),.pointer (some ⟨w.heap.size, 31, none⟩),.pointer (some ⟨w.heap.size, 0, none⟩),.int .i64 d.st,.bool false,.bool false,.pointer (some ⟨w.heap.size, 0, none⟩),.int .i64 d.st,.bool false,.bool false,u148,u149,u150,u151,u152,u153,.pointer (some ⟨w.heap.size, 2, none⟩),.int .u32 d.una,.pointer (some ⟨w.heap.size, 3, none⟩),.pointer (some ⟨w.heap.size, 5, none⟩),.int .i64 d.wnd,.bool true,.bool true,.pointer (some ⟨w.heap.size, 8, none⟩),.pointer (some ⟨w.heap.size, 9, none⟩),.string d.oD,.int .i64 (d.oD.size : Int),.bool true,.bool true,.pointer (some ⟨w.heap.size, 31, none⟩),.int .i64 now,.pointer (some ⟨w.heap.size, 19, none⟩),.agg #[.bool d.rA, .int .i64 d.rS, .int .i64 d.rV, .int .i64 rd],.int .i64 wt,.int .i64 (now + wt),.pointer (some ⟨w.heap.size, 32, none⟩),u174,u175,u176,u177,u178,u179,u180,u181,u182,u183,u184,u185,u186,u187] ?_
                    go_upto_region 30 with (fail)
                    refine vR ?_
                    refine vB cn_big zB33 (cn_size _) ?_
                    refine vV (.slice (some ⟨gl, 0, none⟩) n cl) ?_
                    refine sB (cnCells { d with trs := (d.trs + 1), rA := d.rA, rS := d.rS, rV := d.rV, rD := rd, cX := 100, cT := ct, cD := 0, cF := false, cR := 0, tmg := false, nxt := d.una, agn := 0, prb := (now + wt) }) cn_big Z (cn_size _) (cn_size _) (cn_one _) ?_
                    intro zw34 zt35 zB36
                    clear Z
                    replace zB33 := zB33.touch zt35 (by omega)
                    replace L := L.touch zt35 (by omega)
                    replace H := H.touch zt35 (by omega)
                    replace G := since_touch G zt35 (by omega)
                    have zt35_s := zt35.size
                    refine vV (.slice (some ⟨gl, 0, none⟩) n cl) ?_
                    refine vE #[u0,.int .i64 now,.pointer (some ⟨w.heap.size, 0, none⟩),u3,.pointer (some ⟨w.heap.size + 1, 0, none⟩),.slice (some ⟨gl, 0, none⟩) n cl,.slice (some ⟨gl, 0, none⟩) n cl,u7,u8,u9,u10,u11,u12,u13,u14,u15,u16,u17,u18,u19,u20,u21,u22,u23,u24,u25,u26,u27,u28,u29,u30,u31,u32,u33,u34,u35,u36,u37,u38,u39,u40,u41,u42,u43,u44,u45,u46,u47,u48,u49,u50,u51,u52,u53,u54,u55,u56,u57,u58,u59,u60,u61,u62,u63,u64,u65,u66,u67,u68,u69,u70,u71,u72,u73,u74,u75,u76,u77,u78,u79,u80,u81,u82,u83,u84,u85,u86,u87,u88,u89,u90,u91,u92,u93,u94,u95,u96,u97,u98,u99,.pointer (some ⟨w.heap.size, 31, none⟩),.int .i64 d.agn,.bool true,.bool true,.pointer (some ⟨w.heap.size, 31, none⟩),.int .i64 d.agn,.int .i64 now,.bool true,.bool true,.pointer (some ⟨w.heap.size, 34, none⟩),.int .i64 d.trs,.bool false,u112,u113,u114,.pointer (some ⟨w.heap.size, 34, none⟩),.int .i64 d.trs,.int .i64 (d.trs + 1),.pointer (some ⟨w.heap.size, 34, none⟩),.pointer (some ⟨w.heap.size, 19, none⟩),.agg #[.bool d.rA, .int .i64 d.rS, .int .i64 d.rV, .int .i64 d.rD],.agg #[.bool d.rA, .int .i64 d.rS, .int .i64 d.rV, .int .i64 rd],.pointer (some ⟨w.heap.size, 19, none⟩),.pointer (some ⟨w.heap.size, 23, none⟩),.agg #[.int .i64 d.cX, .int .i64 d.cT, .int .i64 d.cD, .bool d.cF, .int .u32 d.cR],.pointer (some ⟨w.heap.size, 2, none⟩),.int .u32 d.una,.pointer (some ⟨w.heap.size, 4, none⟩),.int .u32 d.mx,.int .i64 dst,.int .i64 uw,.agg #[.int .i64 100, .int .i64 ct, .int .i64 0, .bool false, .int .u32 0],.pointer (some ⟨w.heap.size, 23, none⟩),.pointer (some ⟨w.heap.size, 28, none⟩),.int .i64 now,.pointer (some ⟨w.heap.size, 19, none⟩),.agg #[.bool d.rA, .int .i64 d.rS, .int .i64 d.rV, .int .i64 rd],.int .i64 wt,.int .i64 (now + wt),.pointer (some ⟨w.heap.size, 31, none⟩),.pointer (some ⟨w.heap.size, 0, none⟩),.int .i64 d.st,.bool false,.bool false,.pointer (some ⟨w.heap.size, 0, none⟩),.int .i64 d.st,.bool false,.bool false,u148,u149,u150,u151,u152,u153,.pointer (some ⟨w.heap.size, 2, none⟩),.int .u32 d.una,.pointer (some ⟨w.heap.size, 3, none⟩),.pointer (some ⟨w.heap.size, 5, none⟩),.int .i64 d.wnd,.bool true,.bool true,.pointer (some ⟨w.heap.size, 8, none⟩),.pointer (some ⟨w.heap.size, 9, none⟩),.string d.oD,.int .i64 (d.oD.size : Int),.bool true,.bool true,.pointer (some ⟨w.heap.size, 31, none⟩),.int .i64 now,.pointer (some ⟨w.heap.size, 19, none⟩),.agg #[.bool d.rA, .int .i64 d.rS, .int .i64 d.rV, .int .i64 rd],.int .i64 wt,.int .i64 (now + wt),.pointer (some ⟨w.heap.size, 32, none⟩),.agg (cnCells { d with trs := (d.trs + 1), rA := d.rA, rS := d.rS, rV := d.rV, rD := rd, cX := 100, cT := ct, cD := 0, cF := false, cR := 0, tmg := false, nxt := d.una, agn := 0, prb := (now + wt) }),.slice (some ⟨gl, 0, none⟩) n cl,u176,u177,u178,u179,u180,u181,u182,u183,u184,u185,u186,u187] ?_
                    go_wp2_with (fail)
                    refine bodyPost_ret (results_cn2 (t := 4) (u := 5) rfl _ rfl zB36) rfl ⟨gl, n, cl, ?_, ?_, ?_, G⟩
                    · rw [hX.out]
                      rfl
                    · rw [hX.out]
                      exact L
                    · exact H
end Go.Proofs.YtfenlfijfjcdbaaGreat
