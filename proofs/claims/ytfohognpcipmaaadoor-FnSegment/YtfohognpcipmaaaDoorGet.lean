/-
  Contracts of impl's and spec's GetWord and of the array of four bytes' word, at every text of at most 1048576 bytes and every place.
-/
import Derived.Test.YtfohognpcipmaaaDoorWin
import Derived.WalkLawsBesides
import Derived.Laws.BytesArg
import Derived.Lib.LazyBuf
import Derived.LoopN
import Derived.BigQuiet
import Derived.Deep.QuietTactic
namespace Go.Proofs.YtfohognpcipmaaaDoor
open Go.ChangeShapes Go.WideShapes Go.ChangeAt Go.RowKit
set_option linter.unusedVariables false

theorem Newer.drewN {a b : World} (h : Newer a b) (n : Nat) : Newer a (b.drewN n) := ⟨h.1, ⟨h.2.os, h.2.tape, h.2.output, h.2.size, h.2.block⟩⟩

theorem or_byte (x d : Int) (h0 : 0 ≤ x) (h1 : x < 16777216) (hd : 0 ≤ d ∧ d < 256) : bits .or .u32 (x * 256 % 4294967296) d = x * 256 + d := by
  have e : x * 256 % 4294967296 = x * 256 := by omega
  rw [e]
  exact bits_join .u32 32 (by decide) (fun n h2 h3 => by rw [IntKind.wrap_u32]; omega) 8 (x * 256) d (by omega) (by omega) (by omega) (by omega) (by omega) (by omega)

theorem or_zero (d : Int) (hd : 0 ≤ d ∧ d < 256) : bits .or .u32 0 d = d := by
  have := or_byte 0 d (by omega) (by omega) hd
  simpa using this

theorem joined (a b c d : Int) (ha : 0 ≤ a ∧ a < 256) (hb : 0 ≤ b ∧ b < 256) (hc : 0 ≤ c ∧ c < 256) (hd : 0 ≤ d ∧ d < 256) :
    bits .or .u32 (bits .or .u32 (bits .or .u32 (bits .or .u32 0 a * 256 % 4294967296) b * 256 % 4294967296) c * 256 % 4294967296) d = a * 16777216 + b * 65536 + c * 256 + d := by
  rw [or_zero a ha, or_byte a b (by omega) (by omega) hb, or_byte (a * 256 + b) c (by omega) (by omega) hc, or_byte ((a * 256 + b) * 256 + c) d (by omega) (by omega) hd]
  omega

theorem word (a b c d : Int) (ha : 0 ≤ a ∧ a < 256) (hb : 0 ≤ b ∧ b < 256) (hc : 0 ≤ c ∧ c < 256) (hd : 0 ≤ d ∧ d < 256) (w : World) :
    Calls Tryd.prog 58 #[.agg #[.int .u8 a, .int .u8 b, .int .u8 c, .int .u8 d]] w fun e w' => e = .returned (.int .u32 (a * 16777216 + b * 65536 + c * 256 + d)) ∧ Newer w w' := by
  have i0 : ∀ w, (Instr.index 71 (.agg #[.int .u8 a, .int .u8 b, .int .u8 c, .int .u8 d]) (.int .i64 0)).run Tryd.prog w = .ok (.int .u8 a) w := fun _ => by kernel_rfl
  have i1 : ∀ w, (Instr.index 71 (.agg #[.int .u8 a, .int .u8 b, .int .u8 c, .int .u8 d]) (.int .i64 1)).run Tryd.prog w = .ok (.int .u8 b) w := fun _ => by kernel_rfl
  have i2 : ∀ w, (Instr.index 71 (.agg #[.int .u8 a, .int .u8 b, .int .u8 c, .int .u8 d]) (.int .i64 2)).run Tryd.prog w = .ok (.int .u8 c) w := fun _ => by kernel_rfl
  have i3 : ∀ w, (Instr.index 71 (.agg #[.int .u8 a, .int .u8 b, .int .u8 c, .int .u8 d]) (.int .i64 3)).run Tryd.prog w = .ok (.int .u8 d) w := fun _ => by kernel_rfl
  go_enter Tryd.func58, Tryd.ntmps58
  go_wp2
  refine wp_loop_rounds 5 ?_
  rw [rounds_succ]
  go_wp2
  rw [rounds_succ]
  go_wp2
  rw [rounds_succ]
  go_wp2
  rw [rounds_succ]
  go_wp2
  rw [rounds_succ]
  go_wp2
  go_ret
  refine ⟨?_, by repeat (first | exact Newer.refl _ | apply Newer.drew | apply Newer.alloc)⟩
  rw [← joined a b c d ha hb hc hd]
  rfl

theorem spell (a b c d : Int) (ha : 0 ≤ a ∧ a < 256) (hb : 0 ≤ b ∧ b < 256) (hc : 0 ≤ c ∧ c < 256) (hd : 0 ≤ d ∧ d < 256) :
    wrap64 (wrap64 (wrap64 (wrap64 (wrap64 a * 16777216) + wrap64 (wrap64 b * 65536)) + wrap64 (wrap64 c * 256)) + wrap64 d) % 4294967296 = a * 16777216 + b * 65536 + c * 256 + d := by
  have ea : wrap64 a = a := IntWalk.wrap64_in _ ⟨by omega, by omega⟩
  have eb : wrap64 b = b := IntWalk.wrap64_in _ ⟨by omega, by omega⟩
  have ec : wrap64 c = c := IntWalk.wrap64_in _ ⟨by omega, by omega⟩
  have ed : wrap64 d = d := IntWalk.wrap64_in _ ⟨by omega, by omega⟩
  rw [ea, eb, ec, ed]
  clear ea eb ec ed
  have fa : wrap64 (a * 16777216) = a * 16777216 := IntWalk.wrap64_in _ ⟨by omega, by omega⟩
  have fb : wrap64 (b * 65536) = b * 65536 := IntWalk.wrap64_in _ ⟨by omega, by omega⟩
  have fc : wrap64 (c * 256) = c * 256 := IntWalk.wrap64_in _ ⟨by omega, by omega⟩
  rw [fa, fb, fc]
  clear fa fb fc
  have g1 : wrap64 (a * 16777216 + b * 65536) = a * 16777216 + b * 65536 := IntWalk.wrap64_in _ ⟨by omega, by omega⟩
  rw [g1]
  clear g1
  have g2 : wrap64 (a * 16777216 + b * 65536 + c * 256) = a * 16777216 + b * 65536 + c * 256 := IntWalk.wrap64_in _ ⟨by omega, by omega⟩
  rw [g2]
  clear g2
  have g3 : wrap64 (a * 16777216 + b * 65536 + c * 256 + d) = a * 16777216 + b * 65536 + c * 256 + d := IntWalk.wrap64_in _ ⟨by omega, by omega⟩
  rw [g3]
  clear g3
  omega

theorem byte_in (x : UInt8) : 0 ≤ (x.toNat : Int) ∧ (x.toNat : Int) < 256 := by
  have := UInt8.toNat_lt x
  omega

theorem fill4 (w : World) (ty : TypeId) (z0 z1 z2 z3 v0 v1 v2 v3 : Value) :
    (w.alloc (.cells #[z0, z1, z2, z3] ty)).drew.setCells w.heap.size 0 [v0, v1, v2, v3] = (w.alloc (.cells #[v0, v1, v2, v3] ty)).drew := by
  simp only [World.setCells]
  simp only [World.setCell_drew]
  rw [World.setCell_alloc_at _ _ _ _ _ rfl, World.setCell_alloc_at _ _ _ _ _ rfl, World.setCell_alloc_at _ _ _ _ _ rfl, World.setCell_alloc_at _ _ _ _ _ rfl]
  rfl

theorem four (s : ByteArray) (i : Nat) (hi : i + 4 ≤ s.size) :
    ((s.extract i (i + 4)).data.toList.map fun x => Value.int .u8 (x.toNat : Int)) = [.int .u8 (s[i].toNat : Int), .int .u8 (s[i + 1].toNat : Int), .int .u8 (s[i + 2].toNat : Int), .int .u8 (s[i + 3].toNat : Int)] := by
  have hl : s.data.toList.length = s.size := by simp
  rw [Lib.extract_data, show i + 4 - i = 4 by omega, List.drop_eq_getElem_cons (i := i) (by omega), List.drop_eq_getElem_cons (i := i + 1) (by omega), List.drop_eq_getElem_cons (i := i + 1 + 1) (by omega), List.drop_eq_getElem_cons (i := i + 1 + 1 + 1) (by omega)]
  simp
  exact ⟨rfl, rfl, rfl, rfl⟩

theorem step_copy4 {ops : Array Oper} {o : Oper} {a : Act} {w : World} {K : Act → World → Prop} {Q : Exit → Act → World → Prop} {E : Prop}
    (hg : o.guard = none) (d x : Operand) (hop : o.op = Op.call { callee := Callee.builtin Builtin.copy, args := #[d, x], argTypes := #[22, 9] })
    (s : ByteArray) (i : Nat) (hi : i + 4 ≤ s.size) (ty : TypeId) (z0 z1 z2 z3 : Value)
    (hd : a.eval d = .slice (some ⟨w.heap.size, 0, none⟩) 4 4) (hx : a.eval x = .string (s.extract i (i + 4)))
    (hK : K (a.put o.dst (goInt 4)) (w.alloc (.cells #[.int .u8 (s[i].toNat : Int), .int .u8 (s[i + 1].toNat : Int), .int .u8 (s[i + 2].toNat : Int), .int .u8 (s[i + 3].toNat : Int)] ty)).drew) :
    if Region.wanted o (yielded ops a.tmps) = true then Oper.wp Tryd.prog o a (w.alloc (.cells #[z0, z1, z2, z3] ty)).drew K Q else E := by
  have hz : (s.extract i (i + 4)).size = 4 := by
    rw [ByteArray.size_extract]
    omega
  have hcell : ∀ j, j < 4 → ((w.alloc (.cells #[z0, z1, z2, z3] ty)).drew.cell? ⟨w.heap.size, 0 + j, none⟩).isSome = true := by
    intro j hj
    rw [Nat.zero_add]
    show ((w.alloc (.cells #[z0, z1, z2, z3] ty)).cell? ⟨w.heap.size, j, none⟩).isSome = true
    rw [World.cell?_alloc_mark]
    match j, hj with
    | 0, _ => rfl
    | 1, _ => rfl
    | 2, _ => rfl
    | 3, _ => rfl
  have hfr : ∀ j, j < 4 → (w.alloc (.cells #[z0, z1, z2, z3] ty)).drew.frozen? ⟨w.heap.size, 0 + j, none⟩ = false := by
    intro j hj
    go_simp
  refine step_copy_string hg d x 22 9 hop 5 Tryd.underlying22 (fun _ => by kernel_rfl) w.heap.size 0 4 4 hd (s.extract i (i + 4)) hx (by omega) (by rw [hz]; exact hcell) (by rw [hz]; exact hfr) ?_
  rw [hz, four s i hi, fill4]
  exact hK

theorem implGetOut (s : ByteArray) (i : Int) (hi : ¬ (0 ≤ i ∧ i ≤ (s.size : Int) - 4)) (hs : s.size ≤ 1048576) (w : World) :
    Calls Tryd.prog 51 #[.string s, .int .i64 i] w fun e w' => e = .returned (.int .u32 0) ∧ Newer w w' := by
  by_cases h : i < 0
  · go_enter Tryd.func51, Tryd.ntmps51
    go_wp2
    go_ret
    exact ⟨rfl, Newer.refl _⟩
  · have h2 : (s.size : Int) - 4 < i := by omega
    clear hi
    go_enter Tryd.func51, Tryd.ntmps51
    go_wp2
    go_ret
    exact ⟨rfl, Newer.refl _⟩

theorem implGetIn (s : ByteArray) (i : Nat) (hi : i + 4 ≤ s.size) (hs : s.size ≤ 1048576) (w : World) :
    Calls Tryd.prog 51 #[.string s, .int .i64 (i : Int)] w fun e w' => e = .returned (.int .u32 ((s[i].toNat : Int) * 16777216 + (s[i + 1].toNat : Int) * 65536 + (s[i + 2].toNat : Int) * 256 + (s[i + 3].toNat : Int))) ∧ Newer w w' := by
  have a0 : (i : Int) ≤ (s.size : Int) - 4 := by omega
  have a1 : ¬ ((s.size : Int) - 4 < (i : Int)) := by omega
  have a2 : (i : Int) + 4 ≤ (s.size : Int) := by omega
  have p1 : 0 ≤ (i : Int) + 4 := by omega
  have p2 : (i : Int) ≤ (i : Int) + 4 := by omega
  have b1 : IntKind.i64.wrap ((i : Int) + 4) = (i : Int) + 4 := by rw [IntWalk.i64_left]; exact IntWalk.wrap64_in _ ⟨by omega, by omega⟩
  have hw := fun wx => word (s[i].toNat : Int) (s[i + 1].toNat : Int) (s[i + 2].toNat : Int) (s[i + 3].toNat : Int) (byte_in _) (byte_in _) (byte_in _) (byte_in _) wx
  have t4 : ((i : Int) + 4).toNat = i + 4 := by omega
  go_enter Tryd.func51, Tryd.ntmps51
  go_wp2_with fail
  go_region_law (refine step_copy4 rfl (.tmp 15) (.tmp 20) rfl s i hi _ _ _ _ _ (by simp [Act.eval, Act.put]) (by simp [Act.eval, Act.put]) ?_)
  go_wp2_with (go_at_call 58; refine (hw _).mono ?_; rintro _ w1 ⟨rfl, g1⟩)
  go_ret
  refine ⟨rfl, Newer.trans ?_ g1⟩
  repeat (first | exact Newer.refl _ | apply Newer.drew | apply Newer.alloc)
end Go.Proofs.YtfohognpcipmaaaDoor
