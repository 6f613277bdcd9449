/-
  What is due at an end, as spec does it: from the probe on.
-/
import Derived.Test.YtfenlfijfjcdbaaGreatM18
import Derived.Test.YtfenlfijfjcdbaaGreatM7
import Derived.Test.YtfenlfijfjcdbaaGreatTick11S
import Derived.Test.YtfenlfijfjcdbaaGreatSend11V
import Derived.Test.YtfenlfijfjcdbaaGreatM16
import Derived.Test.YtfenlfijfjcdbaaGreatM23
import Derived.Test.YtfenlfijfjcdbaaGreatM3
import Derived.Deep.DeepCutAuto
namespace Go.Proofs.YtfenlfijfjcdbaaGreat
open Go.ChangeShapes Go.WideShapes Go.ChangeAt Go.RowKit
set_option linter.unusedVariables false
set_option maxRecDepth 10000

set_option maxRecDepth 20000 in
set_option maxHeartbeats 16000000 in
theorem tick5 (d : Cn) (ps : List (Int × ByteArray)) (now : Int) (SV : Cn × List Sg) (w x : World) (g gl : Nat) (u0 u3 u7 u8 u9 u10 u11 u12 u13 u14 u15 u16 u17 u18 u19 u20 u21 u22 u23 u24 u25 u26 u27 u28 u29 u30 u31 u32 u33 u34 u35 u36 u37 u38 u39 u40 u41 u42 u43 u44 u45 u46 u47 u48 u49 u50 u51 u52 u53 u54 u55 u56 u57 u58 u59 u60 u61 u62 u63 u64 u65 u66 u67 u68 u69 u70 u71 u72 u73 u74 u75 u76 u77 u78 u79 u80 u81 u82 u83 u84 u85 u86 u87 u88 u89 u90 u91 u92 u93 u94 u95 u96 u97 u98 u99 u100 u101 u102 u103 u104 u105 u106 u107 u108 u109 u110 u111 u112 u113 u114 u115 u116 u117 u118 u119 u120 u121 u122 u123 u124 u125 u126 u127 u128 u129 u130 u131 u132 u133 u134 u135 u136 u137 u138 u139 u140 u141 u142 u143 u144 u145 u146 u147 u148 u149 u150 u151 u152 u153 u154 u155 u156 u157 u158 u159 u160 u161 u162 u163 u164 u165 u166 u167 u168 u169 u170 u171 u172 u173 u174 u175 u176 u177 u178 u179 u180 u181 u182 u183 u184 u185 u186 u187 : Value) (h0 : 0 ≤ now) (h1 : now ≤ 1000000000) (ok : TickOk d ps) (pa : d.pa = some ⟨g, 0, none⟩) (A : Blk w.heap.size x (cnCells d)) (Z : Blk (w.heap.size + 1) x (cnCells cnZero)) (L : Held shG x w.heap.size gl 0 0 []) (H : Held shP x w.heap.size g d.pn d.pc ps) (G : Since w x) (hgl : w.heap.size + 1 < gl) (hgg : w.heap.size + 1 < g) (hne : gl ≠ g) (hall : Hid (SV = if dueB (firstX ps now d).1.agn now then againX ps now (firstX ps now d).1 (firstX ps now d).2 else firstX ps now d)) :
    Code.wp Tryz.prog (tailOf 5 (Tryz.f5.body.getD .skip)) (bodyPost Tryz.prog Tryz.f5 (fun e w' => ∃ gl n cl, e = .returned (.tuple #[.agg (cnCells SV.1), .slice (some ⟨gl, 0, none⟩) n cl]) ∧ Held shG w' w.heap.size gl n cl SV.2 ∧ Held shP w' w.heap.size g d.pn d.pc ps ∧ Since w w')) { tmps := #[u0, .int .i64 now, .pointer (some ⟨w.heap.size, 0, none⟩), u3, .pointer (some ⟨w.heap.size + 1, 0, none⟩), .slice none 0 0, .slice (some ⟨gl, 0, none⟩) 0 0, u7, u8, u9, u10, u11, u12, u13, u14, u15, u16, u17, u18, u19, u20, u21, u22, u23, u24, u25, u26, u27, u28, u29, u30, u31, u32, u33, u34, u35, u36, u37, u38, u39, u40, u41, u42, u43, u44, u45, u46, u47, u48, u49, u50, u51, u52, u53, u54, u55, u56, u57, u58, u59, u60, u61, u62, u63, u64, u65, u66, u67, u68, u69, u70, u71, u72, u73, u74, u75, u76, u77, u78, u79, u80, u81, u82, u83, u84, u85, u86, u87, u88, u89, u90, u91, u92, u93, u94, u95, u96, u97, u98, u99, u100, u101, u102, u103, u104, u105, u106, u107, u108, u109, u110, u111, u112, u113, u114, u115, u116, u117, u118, u119, u120, u121, u122, u123, u124, u125, u126, u127, u128, u129, u130, u131, u132, u133, u134, u135, u136, u137, u138, u139, u140, u141, u142, u143, u144, u145, u146, u147, u148, u149, u150, u151, u152, u153, u154, u155, u156, u157, u158, u159, u160, u161, u162, u163, u164, u165, u166, u167, u168, u169, u170, u171, u172, u173, u174, u175, u176, u177, u178, u179, u180, u181, u182, u183, u184, u185, u186, u187], defers := [] } x := by
    conv => arg 2; whnf
    conv => arg 4; zeta
    replace pa : Hid _ := pa
    have hZ2 := Z.lt
    have hL2 := L.lt
    have hH2 := H.lt
    have hG2 := G.size
    obtain ⟨bl, hbl⟩ : ∃ q, Hid (q = decide (d.prb ≤ now)) := ⟨_, rfl⟩
    apply wp_seq_k
    intro K9 hK9
    replace hK9 : Hid _ := hK9
    go_upto_region 7 with (fail)
    by_cases hz0 : d.prb = 0
    case pos =>
      have hz : Hid ((d.prb != 0) = false) := by show (d.prb != 0) = false; simp [hz0]
      clear hz0
      refine vR ?_
      refine vV (.pointer (some ⟨w.heap.size, 32, none⟩)) ?_
      refine vD (.int .i64 d.prb) (A.cell 32) ?_
      refine vV (.bool false) ?_ (hrun := by rw [show false = (d.prb != 0) from hz.out.symm]; kernel_rfl)
      refine vV (.bool false) ?_
      refine vS ?_
      refine vS ?_
      refine vS ?_
      refine vS ?_
      refine vV (.bool false) ?_
      refine vE #[u0,.int .i64 now,.pointer (some ⟨w.heap.size, 0, none⟩),u3,.pointer (some ⟨w.heap.size + 1, 0, none⟩),.slice none 0 0,.slice (some ⟨gl, 0, none⟩) 0 0,u7,u8,u9,u10,u11,u12,u13,u14,u15,u16,u17,u18,u19,u20,u21,u22,u23,u24,u25,u26,u27,u28,u29,u30,u31,u32,u33,u34,u35,u36,u37,u38,u39,.pointer (some ⟨w.heap.size, 32, none⟩),.int .i64 d.prb,.bool false,.bool false,U,U,U,U,.bool false,u49,u50,u51,u52,u53,u54,u55,u56,u57,u58,u59,u60,u61,u62,u63,u64,u65,u66,u67,u68,u69,u70,u71,u72,u73,u74,u75,u76,u77,u78,u79,u80,u81,u82,u83,u84,u85,u86,u87,u88,u89,u90,u91,u92,u93,u94,u95,u96,u97,u98,u99,u100,u101,u102,u103,u104,u105,u106,u107,u108,u109,u110,u111,u112,u113,u114,u115,u116,u117,u118,u119,u120,u121,u122,u123,u124,u125,u126,u127,u128,u129,u130,u131,u132,u133,u134,u135,u136,u137,u138,u139,u140,u141,u142,u143,u144,u145,u146,u147,u148,u149,u150,u151,u152,u153,u154,u155,u156,u157,u158,u159,u160,u161,u162,u163,u164,u165,u166,u167,u168,u169,u170,u171,u172,u173,u174,u175,u176,u177,u178,u179,u180,u181,u182,u183,u184,u185,u186,u187] ?_
      have hF : firstX ps now d = (d, []) := by
        unfold firstX
        rw [show dueB d.prb now = false by unfold dueB; rw [decide_eq_false (show ¬ d.prb ≠ 0 by simpa using hz.out)]; rfl]
        rfl
      go_wp2_with (fail)
      have ha : Hid (SV = if dueB (d : Cn).agn now then againX ps now (d) ([]) else (d, [])) := (by show _ = _; rw [hall.out, hF])
      refine hK9.out _ _ ?_
      exact Eq.mp (by kernel_rfl) (tick6 (d) ps now SV w x g gl 0 0 ([]) u0 u3 u7 u8 u9 u10 u11 u12 u13 u14 u15 u16 u17 u18 u19 u20 u21 u22 u23 u24 u25 u26 u27 u28 u29 u30 u31 u32 u33 u34 u35 u36 u37 u38 u39 (.pointer (some ⟨w.heap.size, 32, none⟩)) (.int .i64 d.prb) (.bool false) (.bool false) undef undef undef undef (.bool false) u49 u50 u51 u52 u53 u54 u55 u56 u57 u58 u59 u60 u61 u62 u63 u64 u65 u66 u67 u68 u69 u70 u71 u72 u73 u74 u75 u76 u77 u78 u79 u80 u81 u82 u83 u84 u85 u86 u87 u88 u89 u90 u91 u92 u93 u94 u95 u96 u97 u98 u99 u100 u101 u102 u103 u104 u105 u106 u107 u108 u109 u110 u111 u112 u113 u114 u115 u116 u117 u118 u119 u120 u121 u122 u123 u124 u125 u126 u127 u128 u129 u130 u131 u132 u133 u134 u135 u136 u137 u138 u139 u140 u141 u142 u143 u144 u145 u146 u147 u148 u149 u150 u151 u152 u153 u154 u155 u156 u157 u158 u159 u160 u161 u162 u163 u164 u165 u166 u167 u168 u169 u170 u171 u172 u173 u174 u175 u176 u177 u178 u179 u180 u181 u182 u183 u184 u185 u186 u187 h0 h1 ok pa.out A Z L H G (by omega) hgg (by omega) (by omega) (by exact (fun _ => ⟨rfl, rfl, rfl⟩)) (by exact ha))
    case neg =>
      have hz : Hid ((d.prb != 0) = true) := by show (d.prb != 0) = true; simpa using hz0
      clear hz0
      cases bl
      case false =>
        refine vR ?_
        refine vV (.pointer (some ⟨w.heap.size, 32, none⟩)) ?_
        refine vD (.int .i64 d.prb) (A.cell 32) ?_
        refine vV (.bool true) ?_ (hrun := by rw [show true = (d.prb != 0) from hz.out.symm]; kernel_rfl)
        refine vV (.bool true) ?_
        refine vV (.pointer (some ⟨w.heap.size, 32, none⟩)) ?_
        refine vD (.int .i64 d.prb) (A.cell 32) ?_
        refine vV (.int .i64 now) ?_
        refine vV (.bool false) ?_ (hrun := by rw [show false = decide (d.prb ≤ now) from hbl.out]; kernel_rfl)
        refine vV (.bool false) ?_
        refine vE #[u0,.int .i64 now,.pointer (some ⟨w.heap.size, 0, none⟩),u3,.pointer (some ⟨w.heap.size + 1, 0, none⟩),.slice none 0 0,.slice (some ⟨gl, 0, none⟩) 0 0,u7,u8,u9,u10,u11,u12,u13,u14,u15,u16,u17,u18,u19,u20,u21,u22,u23,u24,u25,u26,u27,u28,u29,u30,u31,u32,u33,u34,u35,u36,u37,u38,u39,.pointer (some ⟨w.heap.size, 32, none⟩),.int .i64 d.prb,.bool true,.bool true,.pointer (some ⟨w.heap.size, 32, none⟩),.int .i64 d.prb,.int .i64 now,.bool false,.bool false,u49,u50,u51,u52,u53,u54,u55,u56,u57,u58,u59,u60,u61,u62,u63,u64,u65,u66,u67,u68,u69,u70,u71,u72,u73,u74,u75,u76,u77,u78,u79,u80,u81,u82,u83,u84,u85,u86,u87,u88,u89,u90,u91,u92,u93,u94,u95,u96,u97,u98,u99,u100,u101,u102,u103,u104,u105,u106,u107,u108,u109,u110,u111,u112,u113,u114,u115,u116,u117,u118,u119,u120,u121,u122,u123,u124,u125,u126,u127,u128,u129,u130,u131,u132,u133,u134,u135,u136,u137,u138,u139,u140,u141,u142,u143,u144,u145,u146,u147,u148,u149,u150,u151,u152,u153,u154,u155,u156,u157,u158,u159,u160,u161,u162,u163,u164,u165,u166,u167,u168,u169,u170,u171,u172,u173,u174,u175,u176,u177,u178,u179,u180,u181,u182,u183,u184,u185,u186,u187] ?_
        have hF : firstX ps now d = (d, []) := by
          unfold firstX
          rw [show dueB d.prb now = false by unfold dueB; rw [decide_eq_true (show d.prb ≠ 0 by simpa using hz.out), ← hbl.out]; rfl]
          rfl
        go_wp2_with (fail)
        have ha : Hid (SV = if dueB (d : Cn).agn now then againX ps now (d) ([]) else (d, [])) := (by show _ = _; rw [hall.out, hF])
        refine hK9.out _ _ ?_
        exact Eq.mp (by kernel_rfl) (tick6 (d) ps now SV w x g gl 0 0 ([]) u0 u3 u7 u8 u9 u10 u11 u12 u13 u14 u15 u16 u17 u18 u19 u20 u21 u22 u23 u24 u25 u26 u27 u28 u29 u30 u31 u32 u33 u34 u35 u36 u37 u38 u39 (.pointer (some ⟨w.heap.size, 32, none⟩)) (.int .i64 d.prb) (.bool true) (.bool true) (.pointer (some ⟨w.heap.size, 32, none⟩)) (.int .i64 d.prb) (.int .i64 now) (.bool false) (.bool false) u49 u50 u51 u52 u53 u54 u55 u56 u57 u58 u59 u60 u61 u62 u63 u64 u65 u66 u67 u68 u69 u70 u71 u72 u73 u74 u75 u76 u77 u78 u79 u80 u81 u82 u83 u84 u85 u86 u87 u88 u89 u90 u91 u92 u93 u94 u95 u96 u97 u98 u99 u100 u101 u102 u103 u104 u105 u106 u107 u108 u109 u110 u111 u112 u113 u114 u115 u116 u117 u118 u119 u120 u121 u122 u123 u124 u125 u126 u127 u128 u129 u130 u131 u132 u133 u134 u135 u136 u137 u138 u139 u140 u141 u142 u143 u144 u145 u146 u147 u148 u149 u150 u151 u152 u153 u154 u155 u156 u157 u158 u159 u160 u161 u162 u163 u164 u165 u166 u167 u168 u169 u170 u171 u172 u173 u174 u175 u176 u177 u178 u179 u180 u181 u182 u183 u184 u185 u186 u187 h0 h1 ok pa.out A Z L H G (by omega) hgg (by omega) (by omega) (by exact (fun _ => ⟨rfl, rfl, rfl⟩)) (by exact ha))
      case true =>
        have hF0 : Hid (firstX ps now d = probeX ps now (d, [])) := by
          show _ = _
          unfold firstX
          rw [show dueB d.prb now = true by unfold dueB; rw [decide_eq_true (show d.prb ≠ 0 by simpa using hz.out), ← hbl.out]; rfl]
          rfl
        have okF := ok.first now
        have hlf := fun wx => specLeft d ok.w_nxt ok.hod wx
        obtain ⟨lf, hlfe⟩ : ∃ q, Hid (q = leftC d) := ⟨_, rfl⟩
        rw [← hlfe.out] at hlf
        obtain ⟨bw, hbw⟩ : ∃ q, Hid (q = (d.wnd == 0)) := ⟨_, rfl⟩
        obtain ⟨b2, hb2⟩ : ∃ q, Hid (q = decide (lf > 0)) := ⟨_, rfl⟩
        obtain ⟨b3, hb3⟩ : ∃ q, Hid (q = decide ((d.oD.size : Int) > 0)) := ⟨_, rfl⟩
        have hnp : Hid (npB d = (bw && (b2 && b3))) := by
          show npB d = _
          unfold npB
          rw [hbw.out, hb2.out, hb3.out, hlfe.out]
          congr 1
          congr 1
          by_cases e : d.oD = ByteArray.empty
          · simp [e]
          · have hp : 0 < d.oD.size := by
              rcases Nat.eq_zero_or_pos d.oD.size with h | h
              · exact absurd (empty_of h) e
              · exact h
            simp [e]
            omega
        refine vR ?_
        refine vV (.pointer (some ⟨w.heap.size, 32, none⟩)) ?_
        refine vD (.int .i64 d.prb) (A.cell 32) ?_
        refine vV (.bool true) ?_ (hrun := by rw [show true = (d.prb != 0) from hz.out.symm]; kernel_rfl)
        refine vV (.bool true) ?_
        refine vV (.pointer (some ⟨w.heap.size, 32, none⟩)) ?_
        refine vD (.int .i64 d.prb) (A.cell 32) ?_
        refine vV (.int .i64 now) ?_
        refine vV (.bool true) ?_ (hrun := by rw [show true = decide (d.prb ≤ now) from hbl.out]; kernel_rfl)
        refine vV (.bool true) ?_
        refine vE #[u0,.int .i64 now,.pointer (some ⟨w.heap.size, 0, none⟩),u3,.pointer (some ⟨w.heap.size + 1, 0, none⟩),.slice none 0 0,.slice (some ⟨gl, 0, none⟩) 0 0,u7,u8,u9,u10,u11,u12,u13,u14,u15,u16,u17,u18,u19,u20,u21,u22,u23,u24,u25,u26,u27,u28,u29,u30,u31,u32,u33,u34,u35,u36,u37,u38,u39,.pointer (some ⟨w.heap.size, 32, none⟩),.int .i64 d.prb,.bool true,.bool true,.pointer (some ⟨w.heap.size, 32, none⟩),.int .i64 d.prb,.int .i64 now,.bool true,.bool true,u49,u50,u51,u52,u53,u54,u55,u56,u57,u58,u59,u60,u61,u62,u63,u64,u65,u66,u67,u68,u69,u70,u71,u72,u73,u74,u75,u76,u77,u78,u79,u80,u81,u82,u83,u84,u85,u86,u87,u88,u89,u90,u91,u92,u93,u94,u95,u96,u97,u98,u99,u100,u101,u102,u103,u104,u105,u106,u107,u108,u109,u110,u111,u112,u113,u114,u115,u116,u117,u118,u119,u120,u121,u122,u123,u124,u125,u126,u127,u128,u129,u130,u131,u132,u133,u134,u135,u136,u137,u138,u139,u140,u141,u142,u143,u144,u145,u146,u147,u148,u149,u150,u151,u152,u153,u154,u155,u156,u157,u158,u159,u160,u161,u162,u163,u164,u165,u166,u167,u168,u169,u170,u171,u172,u173,u174,u175,u176,u177,u178,u179,u180,u181,u182,u183,u184,u185,u186,u187] ?_
        go_upto_region 8 with (fail)
        rename_i Ki hKi
        replace hKi : Hid _ := hKi
        have keyN : npB d = false → ∀ (v51 v52 v53 v54 v55 v56 v57 v58 v59 v60 v61 v62 : Value) (y : World), Blk w.heap.size y (cnCells d) → Blk (w.heap.size + 1) y (cnCells cnZero) → Held shG y w.heap.size gl 0 0 [] → Held shP y w.heap.size g d.pn d.pc ps → Since w y → gl < y.heap.size → g < y.heap.size → Ki { tmps := #[u0, .int .i64 now, .pointer (some ⟨w.heap.size, 0, none⟩), u3, .pointer (some ⟨w.heap.size + 1, 0, none⟩), .slice none 0 0, .slice (some ⟨gl, 0, none⟩) 0 0, u7, u8, u9, u10, u11, u12, u13, u14, u15, u16, u17, u18, u19, u20, u21, u22, u23, u24, u25, u26, u27, u28, u29, u30, u31, u32, u33, u34, u35, u36, u37, u38, u39, .pointer (some ⟨w.heap.size, 32, none⟩), .int .i64 d.prb, .bool true, .bool true, .pointer (some ⟨w.heap.size, 32, none⟩), .int .i64 d.prb, .int .i64 now, .bool true, .bool true, .pointer (some ⟨w.heap.size, 5, none⟩), .int .i64 d.wnd, v51, v52, v53, v54, v55, v56, v57, v58, v59, v60, v61, v62, .bool false, u64, u65, u66, u67, u68, u69, u70, u71, u72, u73, u74, u75, u76, u77, u78, u79, u80, u81, u82, u83, u84, u85, u86, u87, u88, u89, u90, u91, u92, u93, u94, u95, u96, u97, u98, u99, u100, u101, u102, u103, u104, u105, u106, u107, u108, u109, u110, u111, u112, u113, u114, u115, u116, u117, u118, u119, u120, u121, u122, u123, u124, u125, u126, u127, u128, u129, u130, u131, u132, u133, u134, u135, u136, u137, u138, u139, u140, u141, u142, u143, u144, u145, u146, u147, u148, u149, u150, u151, u152, u153, u154, u155, u156, u157, u158, u159, u160, u161, u162, u163, u164, u165, u166, u167, u168, u169, u170, u171, u172, u173, u174, u175, u176, u177, u178, u179, u180, u181, u182, u183, u184, u185, u186, u187], defers := [] } y := by
          intro hno v51 v52 v53 v54 v55 v56 v57 v58 v59 v60 v61 v62 y A Z L H G hy1 hy2
          refine hKi.out _ _ ?_
          go_upto_region 15 with (fail)
          refine vR ?_
          refine vV (.pointer (some ⟨w.heap.size, 32, none⟩)) ?_
          refine sC (cnCells { d with prb := 0 }) A 32 (.int .i64 0) (cn_size _) ?_
          intro zw1 zt2 zB3
          clear A
          replace Z := Z.touch zt2 (by omega)
          replace L := L.touch zt2 (by omega)
          replace H := H.touch zt2 (by omega)
          replace G := since_touch G zt2 (by omega)
          have zt2_s := zt2.size
          refine vE #[u0,.int .i64 now,.pointer (some ⟨w.heap.size, 0, none⟩),u3,.pointer (some ⟨w.heap.size + 1, 0, none⟩),.slice none 0 0,.slice (some ⟨gl, 0, none⟩) 0 0,u7,u8,u9,u10,u11,u12,u13,u14,u15,u16,u17,u18,u19,u20,u21,u22,u23,u24,u25,u26,u27,u28,u29,u30,u31,u32,u33,u34,u35,u36,u37,u38,u39,.pointer (some ⟨w.heap.size, 32, none⟩),.int .i64 d.prb,.bool true,.bool true,.pointer (some ⟨w.heap.size, 32, none⟩),.int .i64 d.prb,.int .i64 now,.bool true,.bool true,.pointer (some ⟨w.heap.size, 5, none⟩),.int .i64 d.wnd,v51,v52,v53,v54,v55,v56,v57,v58,v59,v60,v61,v62,.bool false,u64,u65,u66,u67,u68,u69,u70,u71,u72,u73,u74,u75,u76,u77,u78,u79,u80,u81,u82,u83,u84,u85,u86,u87,u88,u89,u90,u91,u92,u93,u94,u95,u96,u97,u98,.pointer (some ⟨w.heap.size, 32, none⟩),u100,u101,u102,u103,u104,u105,u106,u107,u108,u109,u110,u111,u112,u113,u114,u115,u116,u117,u118,u119,u120,u121,u122,u123,u124,u125,u126,u127,u128,u129,u130,u131,u132,u133,u134,u135,u136,u137,u138,u139,u140,u141,u142,u143,u144,u145,u146,u147,u148,u149,u150,u151,u152,u153,u154,u155,u156,u157,u158,u159,u160,u161,u162,u163,u164,u165,u166,u167,u168,u169,u170,u171,u172,u173,u174,u175,u176,u177,u178,u179,u180,u181,u182,u183,u184,u185,u186,u187] ?_
          have hF : firstX ps now d = ({ d with prb := 0 }, []) := by
            rw [hF0.out]
            unfold probeX
            rw [show npB (d, ([] : List Sg)).1 = false from hno]
            rfl
          rw [hF] at okF
          go_wp2_with (fail)
          have ha : Hid (SV = if dueB ({ d with prb := 0 } : Cn).agn now then againX ps now ({ d with prb := 0 }) ([]) else ({ d with prb := 0 }, [])) := (by show _ = _; rw [hall.out, hF])
          refine hK9.out _ _ ?_
          exact Eq.mp (by kernel_rfl) (tick6 ({ d with prb := 0 }) ps now SV w zw1 g gl 0 0 ([]) u0 u3 u7 u8 u9 u10 u11 u12 u13 u14 u15 u16 u17 u18 u19 u20 u21 u22 u23 u24 u25 u26 u27 u28 u29 u30 u31 u32 u33 u34 u35 u36 u37 u38 u39 (.pointer (some ⟨w.heap.size, 32, none⟩)) (.int .i64 d.prb) (.bool true) (.bool true) (.pointer (some ⟨w.heap.size, 32, none⟩)) (.int .i64 d.prb) (.int .i64 now) (.bool true) (.bool true) (.pointer (some ⟨w.heap.size, 5, none⟩)) (.int .i64 d.wnd) v51 v52 v53 v54 v55 v56 v57 v58 v59 v60 v61 v62 (.bool false) u64 u65 u66 u67 u68 u69 u70 u71 u72 u73 u74 u75 u76 u77 u78 u79 u80 u81 u82 u83 u84 u85 u86 u87 u88 u89 u90 u91 u92 u93 u94 u95 u96 u97 u98 (.pointer (some ⟨w.heap.size, 32, none⟩)) u100 u101 u102 u103 u104 u105 u106 u107 u108 u109 u110 u111 u112 u113 u114 u115 u116 u117 u118 u119 u120 u121 u122 u123 u124 u125 u126 u127 u128 u129 u130 u131 u132 u133 u134 u135 u136 u137 u138 u139 u140 u141 u142 u143 u144 u145 u146 u147 u148 u149 u150 u151 u152 u153 u154 u155 u156 u157 u158 u159 u160 u161 u162 u163 u164 u165 u166 u167 u168 u169 u170 u171 u172 u173 u174 u175 u176 u177 u178 u179 u180 u181 u182 u183 u184 u185 u186 u187 h0 h1 okF pa.out zB3 Z L H G (by omega) hgg (by omega) (by omega) (by exact (fun _ => ⟨rfl, rfl, rfl⟩)) (by exact ha))
        replace keyN : Hid _ := keyN
        cases bw
        case false =>
          have hno : Hid (npB d = false) := hnp.out
          refine vR ?_
          refine vV (.pointer (some ⟨w.heap.size, 5, none⟩)) ?_
          refine vD (.int .i64 d.wnd) (A.cell 5) ?_
          refine vV (.bool false) ?_ (hrun := by rw [show false = (d.wnd == 0) from hbw.out]; kernel_rfl)
          refine vV (.bool false) ?_
          refine vS ?_
          refine vS ?_
          refine vS ?_
          refine vV (.bool false) ?_
          refine vV (.bool false) ?_
          refine vS ?_
          refine vS ?_
          refine vS ?_
          refine vS ?_
          refine vS ?_
          refine vV (.bool false) ?_
          refine vE #[u0,.int .i64 now,.pointer (some ⟨w.heap.size, 0, none⟩),u3,.pointer (some ⟨w.heap.size + 1, 0, none⟩),.slice none 0 0,.slice (some ⟨gl, 0, none⟩) 0 0,u7,u8,u9,u10,u11,u12,u13,u14,u15,u16,u17,u18,u19,u20,u21,u22,u23,u24,u25,u26,u27,u28,u29,u30,u31,u32,u33,u34,u35,u36,u37,u38,u39,.pointer (some ⟨w.heap.size, 32, none⟩),.int .i64 d.prb,.bool true,.bool true,.pointer (some ⟨w.heap.size, 32, none⟩),.int .i64 d.prb,.int .i64 now,.bool true,.bool true,.pointer (some ⟨w.heap.size, 5, none⟩),.int .i64 d.wnd,.bool false,.bool false,U,U,U,.bool false,.bool false,U,U,U,U,U,.bool false,u64,u65,u66,u67,u68,u69,u70,u71,u72,u73,u74,u75,u76,u77,u78,u79,u80,u81,u82,u83,u84,u85,u86,u87,u88,u89,u90,u91,u92,u93,u94,u95,u96,u97,u98,u99,u100,u101,u102,u103,u104,u105,u106,u107,u108,u109,u110,u111,u112,u113,u114,u115,u116,u117,u118,u119,u120,u121,u122,u123,u124,u125,u126,u127,u128,u129,u130,u131,u132,u133,u134,u135,u136,u137,u138,u139,u140,u141,u142,u143,u144,u145,u146,u147,u148,u149,u150,u151,u152,u153,u154,u155,u156,u157,u158,u159,u160,u161,u162,u163,u164,u165,u166,u167,u168,u169,u170,u171,u172,u173,u174,u175,u176,u177,u178,u179,u180,u181,u182,u183,u184,u185,u186,u187] ?_
          go_wp2_with (fail)
          exact keyN.out hno.out _ _ _ _ _ _ _ _ _ _ _ _ _ A Z L H G (by omega) (by omega)
        case true =>
          cases b2
          case false =>
            have hno : Hid (npB d = false) := hnp.out
            refine vR ?_
            refine vV (.pointer (some ⟨w.heap.size, 5, none⟩)) ?_
            refine vD (.int .i64 d.wnd) (A.cell 5) ?_
            refine vV (.bool true) ?_ (hrun := by rw [show true = (d.wnd == 0) from hbw.out]; kernel_rfl)
            refine vV (.bool true) ?_
            refine vB cn_big A (cn_size _) ?_
            refine vK (hlf _) ?_
            intro zw1 zg2
            replace A := A.since zg2
            replace Z := Z.since zg2
            replace L := L.since zg2
            replace H := H.since zg2
            replace G := G.trans zg2
            have zg2_s := zg2.size
            refine vV (.bool false) ?_ (hrun := by rw [show false = decide (lf > 0) from hb2.out]; kernel_rfl)
            refine vV (.bool false) ?_
            refine vV (.bool false) ?_
            refine vS ?_
            refine vS ?_
            refine vS ?_
            refine vS ?_
            refine vS ?_
            refine vV (.bool false) ?_
            refine vE #[u0,.int .i64 now,.pointer (some ⟨w.heap.size, 0, none⟩),u3,.pointer (some ⟨w.heap.size + 1, 0, none⟩),.slice none 0 0,.slice (some ⟨gl, 0, none⟩) 0 0,u7,u8,u9,u10,u11,u12,u13,u14,u15,u16,u17,u18,u19,u20,u21,u22,u23,u24,u25,u26,u27,u28,u29,u30,u31,u32,u33,u34,u35,u36,u37,u38,u39,.pointer (some ⟨w.heap.size, 32, none⟩),.int .i64 d.prb,.bool true,.bool true,.pointer (some ⟨w.heap.size, 32, none⟩),.int .i64 d.prb,.int .i64 now,.bool true,.bool true,.pointer (some ⟨w.heap.size, 5, none⟩),.int .i64 d.wnd,.bool true,.bool true,.agg (cnCells d),.int .i64 lf,.bool false,.bool false,.bool false,U,U,U,U,U,.bool false,u64,u65,u66,u67,u68,u69,u70,u71,u72,u73,u74,u75,u76,u77,u78,u79,u80,u81,u82,u83,u84,u85,u86,u87,u88,u89,u90,u91,u92,u93,u94,u95,u96,u97,u98,u99,u100,u101,u102,u103,u104,u105,u106,u107,u108,u109,u110,u111,u112,u113,u114,u115,u116,u117,u118,u119,u120,u121,u122,u123,u124,u125,u126,u127,u128,u129,u130,u131,u132,u133,u134,u135,u136,u137,u138,u139,u140,u141,u142,u143,u144,u145,u146,u147,u148,u149,u150,u151,u152,u153,u154,u155,u156,u157,u158,u159,u160,u161,u162,u163,u164,u165,u166,u167,u168,u169,u170,u171,u172,u173,u174,u175,u176,u177,u178,u179,u180,u181,u182,u183,u184,u185,u186,u187] ?_
            go_wp2_with (fail)
            exact keyN.out hno.out _ _ _ _ _ _ _ _ _ _ _ _ _ A Z L H G (by omega) (by omega)
          case true =>
            cases b3
            case false =>
              have hno : Hid (npB d = false) := hnp.out
              refine vR ?_
              refine vV (.pointer (some ⟨w.heap.size, 5, none⟩)) ?_
              refine vD (.int .i64 d.wnd) (A.cell 5) ?_
              refine vV (.bool true) ?_ (hrun := by rw [show true = (d.wnd == 0) from hbw.out]; kernel_rfl)
              refine vV (.bool true) ?_
              refine vB cn_big A (cn_size _) ?_
              refine vK (hlf _) ?_
              intro zw1 zg2
              replace A := A.since zg2
              replace Z := Z.since zg2
              replace L := L.since zg2
              replace H := H.since zg2
              replace G := G.trans zg2
              have zg2_s := zg2.size
              refine vV (.bool true) ?_ (hrun := by rw [show true = decide (lf > 0) from hb2.out]; kernel_rfl)
              refine vV (.bool true) ?_
              refine vV (.bool true) ?_
              refine vV (.pointer (some ⟨w.heap.size, 8, none⟩)) ?_
              refine vV (.pointer (some ⟨w.heap.size, 9, none⟩)) ?_
              refine vD (.string d.oD) (A.cell 9) ?_
              refine vV (.int .i64 (d.oD.size : Int)) ?_ (hrun := by simp [go_sem])
              refine vV (.bool false) ?_ (hrun := by rw [show false = decide ((d.oD.size : Int) > 0) from hb3.out]; kernel_rfl)
              refine vV (.bool false) ?_
              refine vE #[u0,.int .i64 now,.pointer (some ⟨w.heap.size, 0, none⟩),u3,.pointer (some ⟨w.heap.size + 1, 0, none⟩),.slice none 0 0,.slice (some ⟨gl, 0, none⟩) 0 0,u7,u8,u9,u10,u11,u12,u13,u14,u15,u16,u17,u18,u19,u20,u21,u22,u23,u24,u25,u26,u27,u28,u29,u30,u31,u32,u33,u34,u35,u36,u37,u38,u39,.pointer (some ⟨w.heap.size, 32, none⟩),.int .i64 d.prb,.bool true,.bool true,.pointer (some ⟨w.heap.size, 32, none⟩),.int .i64 d.prb,.int .i64 now,.bool true,.bool true,.pointer (some ⟨w.heap.size, 5, none⟩),.int .i64 d.wnd,.bool true,.bool true,.agg (cnCells d),.int .i64 lf,.bool true,.bool true,.bool true,.pointer (some ⟨w.heap.size, 8, none⟩),.pointer (some ⟨w.heap.size, 9, none⟩),.string d.oD,.int .i64 (d.oD.size : Int),.bool false,.bool false,u64,u65,u66,u67,u68,u69,u70,u71,u72,u73,u74,u75,u76,u77,u78,u79,u80,u81,u82,u83,u84,u85,u86,u87,u88,u89,u90,u91,u92,u93,u94,u95,u96,u97,u98,u99,u100,u101,u102,u103,u104,u105,u106,u107,u108,u109,u110,u111,u112,u113,u114,u115,u116,u117,u118,u119,u120,u121,u122,u123,u124,u125,u126,u127,u128,u129,u130,u131,u132,u133,u134,u135,u136,u137,u138,u139,u140,u141,u142,u143,u144,u145,u146,u147,u148,u149,u150,u151,u152,u153,u154,u155,u156,u157,u158,u159,u160,u161,u162,u163,u164,u165,u166,u167,u168,u169,u170,u171,u172,u173,u174,u175,u176,u177,u178,u179,u180,u181,u182,u183,u184,u185,u186,u187] ?_
              go_wp2_with (fail)
              exact keyN.out hno.out _ _ _ _ _ _ _ _ _ _ _ _ _ A Z L H G (by omega) (by omega)
            case true =>
              have hsz : 1 ≤ d.oD.size := by have := hb3.out; simp at this; omega
              have hsz2 : (1 : Int) ≤ (d.oD.size : Int) := by omega
              have hsf : shutB d = true := by
                unfold shutB
                rw [decide_eq_true (show d.wnd = 0 by simpa using hbw.out.symm), decide_eq_false (show ¬ d.oD = ByteArray.empty by intro e; rw [e] at hsz; simp at hsz)]
                rfl
              have hrm := fun wx Rx => specInRoom d.iN d.iD d.iR d.pa d.pn d.pc ps ok.gd wx Rx
              unfold inVal at hrm
              obtain ⟨rm, hrme⟩ : ∃ q, Hid (q = inRoomN d.iN d.iD d.iR ps) := ⟨_, rfl⟩
              rw [← hrme.out] at hrm
              obtain ⟨fb, hfb⟩ : ∃ q, Hid (q = d.oD.extract 0 1) := ⟨_, rfl⟩
              have hps : Hid (probeSg d ps = ⟨0, 0, d.una, d.iN, 16, rm, 0, fb⟩) := by
                show probeSg d ps = _
                unfold probeSg
                rw [take_first ok.ou hsz, hrme.out, hfb.out]
              obtain ⟨un1, hun⟩ : ∃ q, Hid (q = (d.una + 1) % 4294967296) := ⟨_, rfl⟩
              have hwr : Hid (IntKind.u32.wrap (d.una + 1) = un1) := hun.out.symm
              have hmx := fun wx => specMax d.mx ((d.una + 1) % 4294967296) _ ok.w_mx (isWord_mod _) (distI_is _ _) wx
              obtain ⟨mv, hmv⟩ : ∃ q, Hid (q = pmxN d) := ⟨_, rfl⟩
              have hme := hmv.out
              unfold pmxN at hme
              rw [← hme, ← hun.out] at hmx
              clear hme
              have hbk := fun wx => specBack d.rA d.rS d.rV d.rD wx
              rw [ok.rt, if_pos rfl] at hbk
              unfold rttVal at hbk
              obtain ⟨rd, hrd⟩ : ∃ q, Hid (q = min (d.rD + 1) 8) := ⟨_, rfl⟩
              rw [← hrd.out] at hbk
              obtain ⟨wt, hwt⟩ : ∃ q, Hid (q = waitOf d.rA d.rS d.rV rd) := ⟨_, rfl⟩
              have hww := fun wx => specWait d.rA d.rS d.rV rd wx
              have hwb := wait_in11 d.rA d.rS d.rV rd
              unfold rttVal at hww
              rw [← hwt.out] at hww hwb
              have hsm : Hid (IntKind.i64.wrap (now + wt) = now + wt) := by
                show _ = _
                rw [IntWalk.i64_left]
                exact IntWalk.wrap64_in _ ⟨by omega, by omega⟩
              clear hwb
              have hpc : Hid (probeC d now = { d with mx := mv, tmg := false, rD := rd, prb := (now + wt) }) := by
                show probeC d now = _
                unfold probeC
                rw [hmv.out, hwt.out, hrd.out]
              refine vR ?_
              refine vV (.pointer (some ⟨w.heap.size, 5, none⟩)) ?_
              refine vD (.int .i64 d.wnd) (A.cell 5) ?_
              refine vV (.bool true) ?_ (hrun := by rw [show true = (d.wnd == 0) from hbw.out]; kernel_rfl)
              refine vV (.bool true) ?_
              refine vB cn_big A (cn_size _) ?_
              refine vK (hlf _) ?_
              intro zw1 zg2
              replace A := A.since zg2
              replace Z := Z.since zg2
              replace L := L.since zg2
              replace H := H.since zg2
              replace G := G.trans zg2
              have zg2_s := zg2.size
              refine vV (.bool true) ?_ (hrun := by rw [show true = decide (lf > 0) from hb2.out]; kernel_rfl)
              refine vV (.bool true) ?_
              refine vV (.bool true) ?_
              refine vV (.pointer (some ⟨w.heap.size, 8, none⟩)) ?_
              refine vV (.pointer (some ⟨w.heap.size, 9, none⟩)) ?_
              refine vD (.string d.oD) (A.cell 9) ?_
              refine vV (.int .i64 (d.oD.size : Int)) ?_ (hrun := by simp [go_sem])
              refine vV (.bool true) ?_ (hrun := by rw [show true = decide ((d.oD.size : Int) > 0) from hb3.out]; kernel_rfl)
              refine vV (.bool true) ?_
              refine vE #[u0,.int .i64 now,.pointer (some ⟨w.heap.size, 0, none⟩),u3,.pointer (some ⟨w.heap.size + 1, 0, none⟩),.slice none 0 0,.slice (some ⟨gl, 0, none⟩) 0 0,u7,u8,u9,u10,u11,u12,u13,u14,u15,u16,u17,u18,u19,u20,u21,u22,u23,u24,u25,u26,u27,u28,u29,u30,u31,u32,u33,u34,u35,u36,u37,u38,u39,.pointer (some ⟨w.heap.size, 32, none⟩),.int .i64 d.prb,.bool true,.bool true,.pointer (some ⟨w.heap.size, 32, none⟩),.int .i64 d.prb,.int .i64 now,.bool true,.bool true,.pointer (some ⟨w.heap.size, 5, none⟩),.int .i64 d.wnd,.bool true,.bool true,.agg (cnCells d),.int .i64 lf,.bool true,.bool true,.bool true,.pointer (some ⟨w.heap.size, 8, none⟩),.pointer (some ⟨w.heap.size, 9, none⟩),.string d.oD,.int .i64 (d.oD.size : Int),.bool true,.bool true,u64,u65,u66,u67,u68,u69,u70,u71,u72,u73,u74,u75,u76,u77,u78,u79,u80,u81,u82,u83,u84,u85,u86,u87,u88,u89,u90,u91,u92,u93,u94,u95,u96,u97,u98,u99,u100,u101,u102,u103,u104,u105,u106,u107,u108,u109,u110,u111,u112,u113,u114,u115,u116,u117,u118,u119,u120,u121,u122,u123,u124,u125,u126,u127,u128,u129,u130,u131,u132,u133,u134,u135,u136,u137,u138,u139,u140,u141,u142,u143,u144,u145,u146,u147,u148,u149,u150,u151,u152,u153,u154,u155,u156,u157,u158,u159,u160,u161,u162,u163,u164,u165,u166,u167,u168,u169,u170,u171,u172,u173,u174,u175,u176,u177,u178,u179,u180,u181,u182,u183,u184,u185,u186,u187] ?_
              go_wp2_with (fail)
              refine hKi.out _ _ ?_
              go_upto_region 9 with (fail)
              refine wp_region_tail (wb := zw1) 14 (fun i x v => match i with
                  | 0 => v = .pointer (some ⟨w.heap.size, 2, none⟩)
                  | 1 => v = .int .u32 d.una
                  | 2 => v = .pointer (some ⟨w.heap.size, 11, none⟩)
                  | 3 => v = .pointer (some ⟨w.heap.size, 11, none⟩)
                  | 4 => v = .int .u32 d.iN
                  | 5 => v = .pointer (some ⟨w.heap.size, 11, none⟩)
                  | 6 => v = .agg #[.int .u32 d.iN, .string d.iD, .slice d.pa d.pn d.pc, .int .i64 d.iR]
                  | 7 => v = .int .i64 rm
                  | 8 => v = .pointer (some ⟨w.heap.size, 8, none⟩)
                  | 9 => v = .pointer (some ⟨w.heap.size, 9, none⟩)
                  | 10 => v = .string d.oD
                  | 11 => v = .string fb
                  | 12 => v = .agg (sgCells ⟨0, 0, d.una, d.iN, 16, rm, 0, fb⟩)
                  | 13 => BoxB zw1.heap.size 8 x v
                  | _ => True) (fun v => { tmps := #[u0, .int .i64 now, .pointer (some ⟨w.heap.size, 0, none⟩), u3, .pointer (some ⟨w.heap.size + 1, 0, none⟩), .slice none 0 0, .slice (some ⟨gl, 0, none⟩) 0 0, v 13, u8, u9, u10, u11, u12, u13, u14, u15, u16, u17, u18, u19, u20, u21, u22, u23, u24, u25, u26, u27, u28, u29, u30, u31, u32, u33, u34, u35, u36, u37, u38, u39, .pointer (some ⟨w.heap.size, 32, none⟩), .int .i64 d.prb, .bool true, .bool true, .pointer (some ⟨w.heap.size, 32, none⟩), .int .i64 d.prb, .int .i64 now, .bool true, .bool true, .pointer (some ⟨w.heap.size, 5, none⟩), .int .i64 d.wnd, .bool true, .bool true, .agg (cnCells d), .int .i64 lf, .bool true, .bool true, .bool true, .pointer (some ⟨w.heap.size, 8, none⟩), .pointer (some ⟨w.heap.size, 9, none⟩), .string d.oD, .int .i64 (d.oD.size : Int), .bool true, .bool true, v 0, v 1, v 2, v 3, v 4, v 5, v 6, v 7, v 8, v 9, v 10, v 11, v 12, u77, u78, u79, u80, u81, u82, u83, u84, u85, u86, u87, u88, u89, u90, u91, u92, u93, u94, u95, u96, u97, u98, u99, u100, u101, u102, u103, u104, u105, u106, u107, u108, u109, u110, u111, u112, u113, u114, u115, u116, u117, u118, u119, u120, u121, u122, u123, u124, u125, u126, u127, u128, u129, u130, u131, u132, u133, u134, u135, u136, u137, u138, u139, u140, u141, u142, u143, u144, u145, u146, u147, u148, u149, u150, u151, u152, u153, u154, u155, u156, u157, u158, u159, u160, u161, u162, u163, u164, u165, u166, u167, u168, u169, u170, u171, u172, u173, u174, u175, u176, u177, u178, u179, u180, u181, u182, u183, u184, u185, u186, u187], defers := [] }) (by kernel_rfl) (by kernel_rfl) (by kernel_rfl) (Since.refl _) ?_ (fun vals => by kernel_rfl) ?_ ?_
              case refine_1 =>
                intro j x x' v h1 h2
                match j, h2 with
                | 0, h2 | 1, h2 | 2, h2 | 3, h2 | 4, h2 | 5, h2 | 6, h2 | 7, h2 | 8, h2 | 9, h2 | 10, h2 | 11, h2 | 12, h2 => exact h2
                | 13, h2 => exact h2.since h1
                | n + 14, _ => trivial
              case refine_2 =>
                repeat (first | exact eachDoes_nil | refine eachDoes_cons ?_ ?_)
                all_goals intro vals x hx hv
                all_goals simp [Region.binds] at hv
                · simp [does, doesUpon, go_sem]
                  exact ⟨(Since.refl _).alloc _, BoxB.new _ _ _ hx.size rfl⟩
                · obtain ⟨e1, e4, e7, e11⟩ := hv
                  simp only [e1, e4, e7, e11]
                  exact does_val (.agg (sgCells ⟨0, 0, d.una, d.iN, 16, rm, 0, fb⟩)) (by kernel_rfl) ⟨Since.refl _, rfl⟩
                · rw [hfb.out]
                  simp [does, doesUpon, go_sem, hv, hsz2, Since.refl]
                · have fl0 : x.cell? ⟨w.heap.size, 9, none⟩ = some (.string d.oD) := (A.since hx).cell 9
                  simp [does, doesUpon, go_sem, hv, fl0, Since.refl]
                · simp [does, doesUpon, go_sem, hv, Since.refl]
                · simp [does, doesUpon, go_sem, Since.refl]
                · simp [does, doesUpon, go_sem, hv]
                  refine (hrm _ (by rw [pa.out]; exact (H.since hx).reads)).mono ?_
                  rintro _ x' ⟨rfl, h1⟩
                  simp [h1]
                · exact does_part_load (A.since hx) pIn_big _ rfl 11 hv [.int .u32 d.iN, .string d.iD, .slice d.pa d.pn d.pc, .int .i64 d.iR] rfl (fun j v hj => by match j, hj with | 0, h => exact h | 1, h => exact h | 2, h => exact h | 3, h => exact h | n + 4, h => exact absurd h (by simp)) ⟨Since.refl _, rfl⟩
                · simp [does, doesUpon, go_sem, Since.refl]
                · have fl0 : x.cell? ⟨w.heap.size, 11, none⟩ = some (.int .u32 d.iN) := (A.since hx).cell 11
                  simp [does, doesUpon, go_sem, hv, fl0, Since.refl]
                · simp [does, doesUpon, go_sem, hv, Since.refl]
                · simp [does, doesUpon, go_sem, Since.refl]
                · have fl0 : x.cell? ⟨w.heap.size, 2, none⟩ = some (.int .u32 d.una) := (A.since hx).cell 2
                  simp [does, doesUpon, go_sem, hv, fl0, Since.refl]
                · simp [does, doesUpon, go_sem, Since.refl]
              case refine_3 =>
                intro zv6 zw4 zh5 hv
                have hv0 : zv6 0 = _ := hv 0 (by decide)
                have hv1 : zv6 1 = _ := hv 1 (by decide)
                have hv2 : zv6 2 = _ := hv 2 (by decide)
                have hv3 : zv6 3 = _ := hv 3 (by decide)
                have hv4 : zv6 4 = _ := hv 4 (by decide)
                have hv5 : zv6 5 = _ := hv 5 (by decide)
                have hv6 : zv6 6 = _ := hv 6 (by decide)
                have hv7 : zv6 7 = _ := hv 7 (by decide)
                have hv8 : zv6 8 = _ := hv 8 (by decide)
                have hv9 : zv6 9 = _ := hv 9 (by decide)
                have hv10 : zv6 10 = _ := hv 10 (by decide)
                have hv11 : zv6 11 = _ := hv 11 (by decide)
                have hv12 : zv6 12 = _ := hv 12 (by decide)
                obtain ⟨zx3, hv13, zx3_l, zx3_c, zx3_z, zx3_B⟩ := hv 13 (by decide)
                clear hv
                simp only [hv0, hv1, hv2, hv3, hv4, hv5, hv6, hv7, hv8, hv9, hv10, hv11, hv12, hv13, List.drop]
                clear hv0 hv1 hv2 hv3 hv4 hv5 hv6 hv7 hv8 hv9 hv10 hv11 hv12 hv13
                replace A := A.since zh5
                replace Z := Z.since zh5
                replace L := L.since zh5
                replace H := H.since zh5
                replace G := G.trans zh5
                have zh5_s := zh5.size
                have zx3_m := zx3_B.lt
                refine VL.out ?_
                refine sB (sgCells ⟨0, 0, d.una, d.iN, 16, rm, 0, fb⟩) seg_big zx3_B rfl zx3_z (seg_one _ _ _ _ _ _ _ _) ?_
                intro zw7 zt8 zB9
                clear zx3_B
                replace A := A.touch zt8 (by omega)
                replace Z := Z.touch zt8 (by omega)
                replace L := L.touch zt8 (by omega)
                replace H := H.touch zt8 (by omega)
                replace G := since_touch G zt8 (by omega)
                have zt8_s := zt8.size
                refine vE #[u0,.int .i64 now,.pointer (some ⟨w.heap.size, 0, none⟩),u3,.pointer (some ⟨w.heap.size + 1, 0, none⟩),.slice none 0 0,.slice (some ⟨gl, 0, none⟩) 0 0,.pointer (some ⟨zx3, 0, none⟩),u8,u9,u10,u11,u12,u13,u14,u15,u16,u17,u18,u19,u20,u21,u22,u23,u24,u25,u26,u27,u28,u29,u30,u31,u32,u33,u34,u35,u36,u37,u38,u39,.pointer (some ⟨w.heap.size, 32, none⟩),.int .i64 d.prb,.bool true,.bool true,.pointer (some ⟨w.heap.size, 32, none⟩),.int .i64 d.prb,.int .i64 now,.bool true,.bool true,.pointer (some ⟨w.heap.size, 5, none⟩),.int .i64 d.wnd,.bool true,.bool true,.agg (cnCells d),.int .i64 lf,.bool true,.bool true,.bool true,.pointer (some ⟨w.heap.size, 8, none⟩),.pointer (some ⟨w.heap.size, 9, none⟩),.string d.oD,.int .i64 (d.oD.size : Int),.bool true,.bool true,.pointer (some ⟨w.heap.size, 2, none⟩),.int .u32 d.una,.pointer (some ⟨w.heap.size, 11, none⟩),.pointer (some ⟨w.heap.size, 11, none⟩),.int .u32 d.iN,.pointer (some ⟨w.heap.size, 11, none⟩),.agg #[.int .u32 d.iN, .string d.iD, .slice d.pa d.pn d.pc, .int .i64 d.iR],.int .i64 rm,.pointer (some ⟨w.heap.size, 8, none⟩),.pointer (some ⟨w.heap.size, 9, none⟩),.string d.oD,.string fb,.agg (sgCells ⟨0, 0, d.una, d.iN, 16, rm, 0, fb⟩),u77,u78,u79,u80,u81,u82,u83,u84,u85,u86,u87,u88,u89,u90,u91,u92,u93,u94,u95,u96,u97,u98,u99,u100,u101,u102,u103,u104,u105,u106,u107,u108,u109,u110,u111,u112,u113,u114,u115,u116,u117,u118,u119,u120,u121,u122,u123,u124,u125,u126,u127,u128,u129,u130,u131,u132,u133,u134,u135,u136,u137,u138,u139,u140,u141,u142,u143,u144,u145,u146,u147,u148,u149,u150,u151,u152,u153,u154,u155,u156,u157,u158,u159,u160,u161,u162,u163,u164,u165,u166,u167,u168,u169,u170,u171,u172,u173,u174,u175,u176,u177,u178,u179,u180,u181,u182,u183,u184,u185,u186,u187] ?_
                go_upto_region 10 with (fail)
                refine vR ?_
                refine vV (.slice (some ⟨gl, 0, none⟩) 0 0) ?_
                refine vB seg_big zB9 rfl ?_
                refine vW (zw7.alloc (.cells (sgCells ⟨0, 0, d.una, d.iN, 16, rm, 0, fb⟩) 61)) (.slice (some ⟨zw7.heap.size, 0, none⟩) 1 1) ?_
                have zL11 := heldG1 zw7 (⟨0, 0, d.una, d.iN, 16, rm, 0, fb⟩)
                have zg12 := (Since.refl zw7).alloc (.cells (sgCells ⟨0, 0, d.una, d.iN, 16, rm, 0, fb⟩) 61)
                replace A := A.since zg12
                replace Z := Z.since zg12
                replace zB9 := zB9.since zg12
                replace L := L.since zg12
                replace H := H.since zg12
                replace G := G.trans zg12
                generalize zw7.alloc (.cells (sgCells ⟨0, 0, d.una, d.iN, 16, rm, 0, fb⟩) 61) = zw10 at A Z zB9 L H G zL11 zg12 ⊢
                have zg12_s := zg12.size
                have zL11_l := zL11.lt
                refine vA L zL11.reads (by unfold maxLen; omega) (by omega) (by have := G.size; omega) ?_
                intro zb17 zc18 zw13 zL14 zr15 ho
                have zt16 := touch_grownG zr15
                have zL14_o := L.low'
                have zL14_p := L.lt
                replace ho := own_or ho
                replace A := A.touch zt16 (by omega)
                replace Z := Z.touch zt16 (by omega)
                replace zB9 := zB9.touch zt16 (by omega)
                replace H := H.touch zt16 (by omega)
                replace G := since_touch G zt16 (by omega)
                have zt16_s := zt16.size
                have zL14_o2 := zL14.low'
                have zL14_l := zL14.lt
                clear L zL11
                refine vV (.slice (some ⟨zb17, 0, none⟩) (0 + 1) zc18) ?_
                refine vE #[u0,.int .i64 now,.pointer (some ⟨w.heap.size, 0, none⟩),u3,.pointer (some ⟨w.heap.size + 1, 0, none⟩),.slice none 0 0,.slice (some ⟨zb17, 0, none⟩) (0 + 1) zc18,.pointer (some ⟨zx3, 0, none⟩),u8,u9,u10,u11,u12,u13,u14,u15,u16,u17,u18,u19,u20,u21,u22,u23,u24,u25,u26,u27,u28,u29,u30,u31,u32,u33,u34,u35,u36,u37,u38,u39,.pointer (some ⟨w.heap.size, 32, none⟩),.int .i64 d.prb,.bool true,.bool true,.pointer (some ⟨w.heap.size, 32, none⟩),.int .i64 d.prb,.int .i64 now,.bool true,.bool true,.pointer (some ⟨w.heap.size, 5, none⟩),.int .i64 d.wnd,.bool true,.bool true,.agg (cnCells d),.int .i64 lf,.bool true,.bool true,.bool true,.pointer (some ⟨w.heap.size, 8, none⟩),.pointer (some ⟨w.heap.size, 9, none⟩),.string d.oD,.int .i64 (d.oD.size : Int),.bool true,.bool true,.pointer (some ⟨w.heap.size, 2, none⟩),.int .u32 d.una,.pointer (some ⟨w.heap.size, 11, none⟩),.pointer (some ⟨w.heap.size, 11, none⟩),.int .u32 d.iN,.pointer (some ⟨w.heap.size, 11, none⟩),.agg #[.int .u32 d.iN, .string d.iD, .slice d.pa d.pn d.pc, .int .i64 d.iR],.int .i64 rm,.pointer (some ⟨w.heap.size, 8, none⟩),.pointer (some ⟨w.heap.size, 9, none⟩),.string d.oD,.string fb,.agg (sgCells ⟨0, 0, d.una, d.iN, 16, rm, 0, fb⟩),.slice (some ⟨gl, 0, none⟩) 0 0,.agg (sgCells ⟨0, 0, d.una, d.iN, 16, rm, 0, fb⟩),.slice (some ⟨zw7.heap.size, 0, none⟩) 1 1,.slice (some ⟨zb17, 0, none⟩) (0 + 1) zc18,u81,u82,u83,u84,u85,u86,u87,u88,u89,u90,u91,u92,u93,u94,u95,u96,u97,u98,u99,u100,u101,u102,u103,u104,u105,u106,u107,u108,u109,u110,u111,u112,u113,u114,u115,u116,u117,u118,u119,u120,u121,u122,u123,u124,u125,u126,u127,u128,u129,u130,u131,u132,u133,u134,u135,u136,u137,u138,u139,u140,u141,u142,u143,u144,u145,u146,u147,u148,u149,u150,u151,u152,u153,u154,u155,u156,u157,u158,u159,u160,u161,u162,u163,u164,u165,u166,u167,u168,u169,u170,u171,u172,u173,u174,u175,u176,u177,u178,u179,u180,u181,u182,u183,u184,u185,u186,u187] ?_
                go_upto_region 11 with (fail)
                refine vR ?_
                refine vV (.pointer (some ⟨w.heap.size, 4, none⟩)) ?_
                refine vD (.int .u32 d.mx) (A.cell 4) ?_
                refine vV (.pointer (some ⟨w.heap.size, 2, none⟩)) ?_
                refine vD (.int .u32 d.una) (A.cell 2) ?_
                refine vV (.int .u32 un1) ?_ (hrun := by rw [← hwr.out]; kernel_rfl)
                refine vC (hmx _) ?_
                rintro _ _ ⟨rfl, rfl⟩
                refine ⟨_, rfl, ?_⟩
                refine vV (.pointer (some ⟨w.heap.size, 4, none⟩)) ?_
                refine sC (cnCells { d with mx := mv }) A 4 (.int .u32 mv) (cn_size _) ?_
                intro zw19 zt20 zB21
                clear A
                replace Z := Z.touch zt20 (by omega)
                replace zB9 := zB9.touch zt20 (by omega)
                replace H := H.touch zt20 (by omega)
                replace zL14 := zL14.touch zt20 (by omega)
                replace G := since_touch G zt20 (by omega)
                have zt20_s := zt20.size
                refine vE #[u0,.int .i64 now,.pointer (some ⟨w.heap.size, 0, none⟩),u3,.pointer (some ⟨w.heap.size + 1, 0, none⟩),.slice none 0 0,.slice (some ⟨zb17, 0, none⟩) (0 + 1) zc18,.pointer (some ⟨zx3, 0, none⟩),u8,u9,u10,u11,u12,u13,u14,u15,u16,u17,u18,u19,u20,u21,u22,u23,u24,u25,u26,u27,u28,u29,u30,u31,u32,u33,u34,u35,u36,u37,u38,u39,.pointer (some ⟨w.heap.size, 32, none⟩),.int .i64 d.prb,.bool true,.bool true,.pointer (some ⟨w.heap.size, 32, none⟩),.int .i64 d.prb,.int .i64 now,.bool true,.bool true,.pointer (some ⟨w.heap.size, 5, none⟩),.int .i64 d.wnd,.bool true,.bool true,.agg (cnCells d),.int .i64 lf,.bool true,.bool true,.bool true,.pointer (some ⟨w.heap.size, 8, none⟩),.pointer (some ⟨w.heap.size, 9, none⟩),.string d.oD,.int .i64 (d.oD.size : Int),.bool true,.bool true,.pointer (some ⟨w.heap.size, 2, none⟩),.int .u32 d.una,.pointer (some ⟨w.heap.size, 11, none⟩),.pointer (some ⟨w.heap.size, 11, none⟩),.int .u32 d.iN,.pointer (some ⟨w.heap.size, 11, none⟩),.agg #[.int .u32 d.iN, .string d.iD, .slice d.pa d.pn d.pc, .int .i64 d.iR],.int .i64 rm,.pointer (some ⟨w.heap.size, 8, none⟩),.pointer (some ⟨w.heap.size, 9, none⟩),.string d.oD,.string fb,.agg (sgCells ⟨0, 0, d.una, d.iN, 16, rm, 0, fb⟩),.slice (some ⟨gl, 0, none⟩) 0 0,.agg (sgCells ⟨0, 0, d.una, d.iN, 16, rm, 0, fb⟩),.slice (some ⟨zw7.heap.size, 0, none⟩) 1 1,.slice (some ⟨zb17, 0, none⟩) (0 + 1) zc18,.pointer (some ⟨w.heap.size, 4, none⟩),.int .u32 d.mx,.pointer (some ⟨w.heap.size, 2, none⟩),.int .u32 d.una,.int .u32 un1,.int .u32 mv,.pointer (some ⟨w.heap.size, 4, none⟩),u88,u89,u90,u91,u92,u93,u94,u95,u96,u97,u98,u99,u100,u101,u102,u103,u104,u105,u106,u107,u108,u109,u110,u111,u112,u113,u114,u115,u116,u117,u118,u119,u120,u121,u122,u123,u124,u125,u126,u127,u128,u129,u130,u131,u132,u133,u134,u135,u136,u137,u138,u139,u140,u141,u142,u143,u144,u145,u146,u147,u148,u149,u150,u151,u152,u153,u154,u155,u156,u157,u158,u159,u160,u161,u162,u163,u164,u165,u166,u167,u168,u169,u170,u171,u172,u173,u174,u175,u176,u177,u178,u179,u180,u181,u182,u183,u184,u185,u186,u187] ?_
                go_upto_region 12 with (fail)
                refine vR ?_
                refine vV (.pointer (some ⟨w.heap.size, 28, none⟩)) ?_
                refine sC (cnCells { d with mx := mv, tmg := false }) zB21 28 (.bool false) (cn_size _) ?_
                intro zw22 zt23 zB24
                clear zB21
                replace Z := Z.touch zt23 (by omega)
                replace zB9 := zB9.touch zt23 (by omega)
                replace H := H.touch zt23 (by omega)
                replace zL14 := zL14.touch zt23 (by omega)
                replace G := since_touch G zt23 (by omega)
                have zt23_s := zt23.size
                refine vE #[u0,.int .i64 now,.pointer (some ⟨w.heap.size, 0, none⟩),u3,.pointer (some ⟨w.heap.size + 1, 0, none⟩),.slice none 0 0,.slice (some ⟨zb17, 0, none⟩) (0 + 1) zc18,.pointer (some ⟨zx3, 0, none⟩),u8,u9,u10,u11,u12,u13,u14,u15,u16,u17,u18,u19,u20,u21,u22,u23,u24,u25,u26,u27,u28,u29,u30,u31,u32,u33,u34,u35,u36,u37,u38,u39,.pointer (some ⟨w.heap.size, 32, none⟩),.int .i64 d.prb,.bool true,.bool true,.pointer (some ⟨w.heap.size, 32, none⟩),.int .i64 d.prb,.int .i64 now,.bool true,.bool true,.pointer (some ⟨w.heap.size, 5, none⟩),.int .i64 d.wnd,.bool true,.bool true,.agg (cnCells d),.int .i64 lf,.bool true,.bool true,.bool true,.pointer (some ⟨w.heap.size, 8, none⟩),.pointer (some ⟨w.heap.size, 9, none⟩),.string d.oD,.int .i64 (d.oD.size : Int),.bool true,.bool true,.pointer (some ⟨w.heap.size, 2, none⟩),.int .u32 d.una,.pointer (some ⟨w.heap.size, 11, none⟩),.pointer (some ⟨w.heap.size, 11, none⟩),.int .u32 d.iN,.pointer (some ⟨w.heap.size, 11, none⟩),.agg #[.int .u32 d.iN, .string d.iD, .slice d.pa d.pn d.pc, .int .i64 d.iR],.int .i64 rm,.pointer (some ⟨w.heap.size, 8, none⟩),.pointer (some ⟨w.heap.size, 9, none⟩),.string d.oD,.string fb,.agg (sgCells ⟨0, 0, d.una, d.iN, 16, rm, 0, fb⟩),.slice (some ⟨gl, 0, none⟩) 0 0,.agg (sgCells ⟨0, 0, d.una, d.iN, 16, rm, 0, fb⟩),.slice (some ⟨zw7.heap.size, 0, none⟩) 1 1,.slice (some ⟨zb17, 0, none⟩) (0 + 1) zc18,.pointer (some ⟨w.heap.size, 4, none⟩),.int .u32 d.mx,.pointer (some ⟨w.heap.size, 2, none⟩),.int .u32 d.una,.int .u32 un1,.int .u32 mv,.pointer (some ⟨w.heap.size, 4, none⟩),.pointer (some ⟨w.heap.size, 28, none⟩),u89,u90,u91,u92,u93,u94,u95,u96,u97,u98,u99,u100,u101,u102,u103,u104,u105,u106,u107,u108,u109,u110,u111,u112,u113,u114,u115,u116,u117,u118,u119,u120,u121,u122,u123,u124,u125,u126,u127,u128,u129,u130,u131,u132,u133,u134,u135,u136,u137,u138,u139,u140,u141,u142,u143,u144,u145,u146,u147,u148,u149,u150,u151,u152,u153,u154,u155,u156,u157,u158,u159,u160,u161,u162,u163,u164,u165,u166,u167,u168,u169,u170,u171,u172,u173,u174,u175,u176,u177,u178,u179,u180,u181,u182,u183,u184,u185,u186,u187] ?_
                go_upto_region 13 with (fail)
                refine vR ?_
                refine vV (.pointer (some ⟨w.heap.size, 19, none⟩)) ?_
                refine vP pRtt_big zB24 19 [.bool d.rA, .int .i64 d.rS, .int .i64 d.rV, .int .i64 d.rD] ?_
                refine vK (hbk _) ?_
                intro zw25 zg26
                replace zB24 := zB24.since zg26
                replace Z := Z.since zg26
                replace zB9 := zB9.since zg26
                replace H := H.since zg26
                replace zL14 := zL14.since zg26
                replace G := G.trans zg26
                have zg26_s := zg26.size
                refine vV (.pointer (some ⟨w.heap.size, 19, none⟩)) ?_
                refine sP (cnCells { d with mx := mv, tmg := false, rA := d.rA, rS := d.rS, rV := d.rV, rD := rd }) pRtt_big zB24 19 #[.bool d.rA, .int .i64 d.rS, .int .i64 d.rV, .int .i64 rd] (cn_size _) (by simp [Value.oneCell']) ?_
                intro zw27 zt28 zB29
                clear zB24
                replace Z := Z.touch zt28 (by omega)
                replace zB9 := zB9.touch zt28 (by omega)
                replace H := H.touch zt28 (by omega)
                replace zL14 := zL14.touch zt28 (by omega)
                replace G := since_touch G zt28 (by omega)
                have zt28_s := zt28.size
                refine vE #[u0,.int .i64 now,.pointer (some ⟨w.heap.size, 0, none⟩),u3,.pointer (some ⟨w.heap.size + 1, 0, none⟩),.slice none 0 0,.slice (some ⟨zb17, 0, none⟩) (0 + 1) zc18,.pointer (some ⟨zx3, 0, none⟩),u8,u9,u10,u11,u12,u13,u14,u15,u16,u17,u18,u19,u20,u21,u22,u23,u24,u25,u26,u27,u28,u29,u30,u31,u32,u33,u34,u35,u36,u37,u38,u39,.pointer (some ⟨w.heap.size, 32, none⟩),.int .i64 d.prb,.bool true,.bool true,.pointer (some ⟨w.heap.size, 32, none⟩),.int .i64 d.prb,.int .i64 now,.bool true,.bool true,.pointer (some ⟨w.heap.size, 5, none⟩),.int .i64 d.wnd,.bool true,.bool true,.agg (cnCells d),.int .i64 lf,.bool true,.bool true,.bool true,.pointer (some ⟨w.heap.size, 8, none⟩),.pointer (some ⟨w.heap.size, 9, none⟩),.string d.oD,.int .i64 (d.oD.size : Int),.bool true,.bool true,.pointer (some ⟨w.heap.size, 2, none⟩),.int .u32 d.una,.pointer (some ⟨w.heap.size, 11, none⟩),.pointer (some ⟨w.heap.size, 11, none⟩),.int .u32 d.iN,.pointer (some ⟨w.heap.size, 11, none⟩),.agg #[.int .u32 d.iN, .string d.iD, .slice d.pa d.pn d.pc, .int .i64 d.iR],.int .i64 rm,.pointer (some ⟨w.heap.size, 8, none⟩),.pointer (some ⟨w.heap.size, 9, none⟩),.string d.oD,.string fb,.agg (sgCells ⟨0, 0, d.una, d.iN, 16, rm, 0, fb⟩),.slice (some ⟨gl, 0, none⟩) 0 0,.agg (sgCells ⟨0, 0, d.una, d.iN, 16, rm, 0, fb⟩),.slice (some ⟨zw7.heap.size, 0, none⟩) 1 1,.slice (some ⟨zb17, 0, none⟩) (0 + 1) zc18,.pointer (some ⟨w.heap.size, 4, none⟩),.int .u32 d.mx,.pointer (some ⟨w.heap.size, 2, none⟩),.int .u32 d.una,.int .u32 un1,.int .u32 mv,.pointer (some ⟨w.heap.size, 4, none⟩),.pointer (some ⟨w.heap.size, 28, none⟩),.pointer (some ⟨w.heap.size, 19, none⟩),.agg #[.bool d.rA, .int .i64 d.rS, .int .i64 d.rV, .int .i64 d.rD],.agg #[.bool d.rA, .int .i64 d.rS, .int .i64 d.rV, .int .i64 rd],.pointer (some ⟨w.heap.size, 19, none⟩),u93,u94,u95,u96,u97,u98,u99,u100,u101,u102,u103,u104,u105,u106,u107,u108,u109,u110,u111,u112,u113,u114,u115,u116,u117,u118,u119,u120,u121,u122,u123,u124,u125,u126,u127,u128,u129,u130,u131,u132,u133,u134,u135,u136,u137,u138,u139,u140,u141,u142,u143,u144,u145,u146,u147,u148,u149,u150,u151,u152,u153,u154,u155,u156,u157,u158,u159,u160,u161,u162,u163,u164,u165,u166,u167,u168,u169,u170,u171,u172,u173,u174,u175,u176,u177,u178,u179,u180,u181,u182,u183,u184,u185,u186,u187] ?_
                go_upto_region 14 with (fail)
                refine vR ?_
                refine vV (.int .i64 now) ?_
                refine vV (.pointer (some ⟨w.heap.size, 19, none⟩)) ?_
                refine vP pRtt_big zB29 19 [.bool d.rA, .int .i64 d.rS, .int .i64 d.rV, .int .i64 rd] ?_
                refine vK (hww _) ?_
                intro zw30 zg31
                replace zB29 := zB29.since zg31
                replace Z := Z.since zg31
                replace zB9 := zB9.since zg31
                replace H := H.since zg31
                replace zL14 := zL14.since zg31
                replace G := G.trans zg31
                have zg31_s := zg31.size
                refine vV (.int .i64 (now + wt)) ?_ (hrun := by rw [← hsm.out]; kernel_rfl)
                refine vV (.pointer (some ⟨w.heap.size, 32, none⟩)) ?_
                refine sC (cnCells { d with mx := mv, tmg := false, rA := d.rA, rS := d.rS, rV := d.rV, rD := rd, prb := (now + wt) }) zB29 32 (.int .i64 (now + wt)) (cn_size _) ?_
                intro zw32 zt33 zB34
                clear zB29
                replace Z := Z.touch zt33 (by omega)
                replace zB9 := zB9.touch zt33 (by omega)
                replace H := H.touch zt33 (by omega)
                replace zL14 := zL14.touch zt33 (by omega)
                replace G := since_touch G zt33 (by omega)
                have zt33_s := zt33.size
                refine vE #[u0,.int .i64 now,.pointer (some ⟨w.heap.size, 0, none⟩),u3,.pointer (some ⟨w.heap.size + 1, 0, none⟩),.slice none 0 0,.slice (some ⟨zb17, 0, none⟩) (0 + 1) zc18,.pointer (some ⟨zx3, 0, none⟩),u8,u9,u10,u11,u12,u13,u14,u15,u16,u17,u18,u19,u20,u21,u22,u23,u24,u25,u26,u27,u28,u29,u30,u31,u32,u33,u34,u35,u36,u37,u38,u39,.pointer (some ⟨w.heap.size, 32, none⟩),.int .i64 d.prb,.bool true,.bool true,.pointer (some ⟨w.heap.size, 32, none⟩),.int .i64 d.prb,.int .i64 now,.bool true,.bool true,.pointer (some ⟨w.heap.size, 5, none⟩),.int .i64 d.wnd,.bool true,.bool true,.agg (cnCells d),.int .i64 lf,.bool true,.bool true,.bool true,.pointer (some ⟨w.heap.size, 8, none⟩),.pointer (some ⟨w.heap.size, 9, none⟩),.string d.oD,.int .i64 (d.oD.size : Int),.bool true,.bool true,.pointer (some ⟨w.heap.size, 2, none⟩),.int .u32 d.una,.pointer (some ⟨w.heap.size, 11, none⟩),.pointer (some ⟨w.heap.size, 11, none⟩),.int .u32 d.iN,.pointer (some ⟨w.heap.size, 11, none⟩),.agg #[.int .u32 d.iN, .string d.iD, .slice d.pa d.pn d.pc, .int .i64 d.iR],.int .i64 rm,.pointer (some ⟨w.heap.size, 8, none⟩),.pointer (some ⟨w.heap.size, 9, none⟩),.string d.oD,.string fb,.agg (sgCells ⟨0, 0, d.una, d.iN, 16, rm, 0, fb⟩),.slice (some ⟨gl, 0, none⟩) 0 0,.agg (sgCells ⟨0, 0, d.una, d.iN, 16, rm, 0, fb⟩),.slice (some ⟨zw7.heap.size, 0, none⟩) 1 1,.slice (some ⟨zb17, 0, none⟩) (0 + 1) zc18,.pointer (some ⟨w.heap.size, 4, none⟩),.int .u32 d.mx,.pointer (some ⟨w.heap.size, 2, none⟩),.int .u32 d.una,.int .u32 un1,.int .u32 mv,.pointer (some ⟨w.heap.size, 4, none⟩),.pointer (some ⟨w.heap.size, 28, none⟩),.pointer (some ⟨w.heap.size, 19, none⟩),.agg #[.bool d.rA, .int .i64 d.rS, .int .i64 d.rV, .int .i64 d.rD],.agg #[.bool d.rA, .int .i64 d.rS, .int .i64 d.rV, .int .i64 rd],.pointer (some ⟨w.heap.size, 19, none⟩),.int .i64 now,.pointer (some ⟨w.heap.size, 19, none⟩),.agg #[.bool d.rA, .int .i64 d.rS, .int .i64 d.rV, .int .i64 rd],.int .i64 wt,.int .i64 (now + wt),.pointer (some ⟨w.heap.size, 32, none⟩),u99,u100,u101,u102,u103,u104,u105,u106,u107,u108,u109,u110,u111,u112,u113,u114,u115,u116,u117,u118,u119,u120,u121,u122,u123,u124,u125,u126,u127,u128,u129,u130,u131,u132,u133,u134,u135,u136,u137,u138,u139,u140,u141,u142,u143,u144,u145,u146,u147,u148,u149,u150,u151,u152,u153,u154,u155,u156,u157,u158,u159,u160,u161,u162,u163,u164,u165,u166,u167,u168,u169,u170,u171,u172,u173,u174,u175,u176,u177,u178,u179,u180,u181,u182,u183,u184,u185,u186,u187] ?_
                have hF : firstX ps now d = ({ d with mx := mv, tmg := false, rA := d.rA, rS := d.rS, rV := d.rV, rD := rd, prb := (now + wt) }, ([] ++ [⟨0, 0, d.una, d.iN, 16, rm, 0, fb⟩])) := by
                  rw [hF0.out]
                  unfold probeX
                  rw [show npB (d, ([] : List Sg)).1 = true from hnp.out, if_pos rfl]
                  show (probeC d now, [] ++ [probeSg d ps]) = _
                  rw [hpc.out, hps.out]
                rw [hF] at okF
                replace okF : TickOk { d with mx := mv, tmg := false, rA := d.rA, rS := d.rS, rV := d.rV, rD := rd, prb := (now + wt) } ps := okF
                have hxs1 : shutB { d with mx := mv, tmg := false, rA := d.rA, rS := d.rS, rV := d.rV, rD := rd, prb := (now + wt) } = false → (([] ++ [⟨0, 0, d.una, d.iN, 16, rm, 0, fb⟩]) : List Sg) = [] ∧ (0 + 1) = 0 ∧ zc18 = 0 := by
                  intro q
                  rw [show shutB { d with mx := mv, tmg := false, rA := d.rA, rS := d.rS, rV := d.rV, rD := rd, prb := (now + wt) } = shutB d from rfl, hsf] at q
                  cases q
                go_wp2_with (fail)
                have ha : Hid (SV = if dueB ({ d with mx := mv, tmg := false, rA := d.rA, rS := d.rS, rV := d.rV, rD := rd, prb := (now + wt) } : Cn).agn now then againX ps now ({ d with mx := mv, tmg := false, rA := d.rA, rS := d.rS, rV := d.rV, rD := rd, prb := (now + wt) }) (([] ++ [⟨0, 0, d.una, d.iN, 16, rm, 0, fb⟩])) else ({ d with mx := mv, tmg := false, rA := d.rA, rS := d.rS, rV := d.rV, rD := rd, prb := (now + wt) }, ([] ++ [⟨0, 0, d.una, d.iN, 16, rm, 0, fb⟩]))) := (by show _ = _; rw [hall.out, hF])
                refine hK9.out _ _ ?_
                exact Eq.mp (by kernel_rfl) (tick6 ({ d with mx := mv, tmg := false, rA := d.rA, rS := d.rS, rV := d.rV, rD := rd, prb := (now + wt) }) ps now SV w zw32 g zb17 (0 + 1) zc18 (([] ++ [⟨0, 0, d.una, d.iN, 16, rm, 0, fb⟩])) u0 u3 (.pointer (some ⟨zx3, 0, none⟩)) u8 u9 u10 u11 u12 u13 u14 u15 u16 u17 u18 u19 u20 u21 u22 u23 u24 u25 u26 u27 u28 u29 u30 u31 u32 u33 u34 u35 u36 u37 u38 u39 (.pointer (some ⟨w.heap.size, 32, none⟩)) (.int .i64 d.prb) (.bool true) (.bool true) (.pointer (some ⟨w.heap.size, 32, none⟩)) (.int .i64 d.prb) (.int .i64 now) (.bool true) (.bool true) (.pointer (some ⟨w.heap.size, 5, none⟩)) (.int .i64 d.wnd) (.bool true) (.bool true) (.agg (cnCells d)) (.int .i64 lf) (.bool true) (.bool true) (.bool true) (.pointer (some ⟨w.heap.size, 8, none⟩)) (.pointer (some ⟨w.heap.size, 9, none⟩)) (.string d.oD) (.int .i64 (d.oD.size : Int)) (.bool true) (.bool true) (.pointer (some ⟨w.heap.size, 2, none⟩)) (.int .u32 d.una) (.pointer (some ⟨w.heap.size, 11, none⟩)) (.pointer (some ⟨w.heap.size, 11, none⟩)) (.int .u32 d.iN) (.pointer (some ⟨w.heap.size, 11, none⟩)) (.agg #[.int .u32 d.iN, .string d.iD, .slice d.pa d.pn d.pc, .int .i64 d.iR]) (.int .i64 rm) (.pointer (some ⟨w.heap.size, 8, none⟩)) (.pointer (some ⟨w.heap.size, 9, none⟩)) (.string d.oD) (.string fb) (.agg (sgCells ⟨0, 0, d.una, d.iN, 16, rm, 0, fb⟩)) (.slice (some ⟨gl, 0, none⟩) 0 0) (.agg (sgCells ⟨0, 0, d.una, d.iN, 16, rm, 0, fb⟩)) (.slice (some ⟨zw7.heap.size, 0, none⟩) 1 1) (.slice (some ⟨zb17, 0, none⟩) (0 + 1) zc18) (.pointer (some ⟨w.heap.size, 4, none⟩)) (.int .u32 d.mx) (.pointer (some ⟨w.heap.size, 2, none⟩)) (.int .u32 d.una) (.int .u32 un1) (.int .u32 mv) (.pointer (some ⟨w.heap.size, 4, none⟩)) (.pointer (some ⟨w.heap.size, 28, none⟩)) (.pointer (some ⟨w.heap.size, 19, none⟩)) (.agg #[.bool d.rA, .int .i64 d.rS, .int .i64 d.rV, .int .i64 d.rD]) (.agg #[.bool d.rA, .int .i64 d.rS, .int .i64 d.rV, .int .i64 rd]) (.pointer (some ⟨w.heap.size, 19, none⟩)) (.int .i64 now) (.pointer (some ⟨w.heap.size, 19, none⟩)) (.agg #[.bool d.rA, .int .i64 d.rS, .int .i64 d.rV, .int .i64 rd]) (.int .i64 wt) (.int .i64 (now + wt)) (.pointer (some ⟨w.heap.size, 32, none⟩)) u99 u100 u101 u102 u103 u104 u105 u106 u107 u108 u109 u110 u111 u112 u113 u114 u115 u116 u117 u118 u119 u120 u121 u122 u123 u124 u125 u126 u127 u128 u129 u130 u131 u132 u133 u134 u135 u136 u137 u138 u139 u140 u141 u142 u143 u144 u145 u146 u147 u148 u149 u150 u151 u152 u153 u154 u155 u156 u157 u158 u159 u160 u161 u162 u163 u164 u165 u166 u167 u168 u169 u170 u171 u172 u173 u174 u175 u176 u177 u178 u179 u180 u181 u182 u183 u184 u185 u186 u187 h0 h1 okF pa.out zB34 Z zL14 H G (by omega) hgg (by omega) (by omega) (by exact hxs1) (by exact ha))
end Go.Proofs.YtfenlfijfjcdbaaGreat
