/-
  Contracts of impl's readPacket, at every text of at most 1048576 bytes: it hands back the fields, or panics.
-/
import Derived.Test.YtigjppamjfnmcaaPutPkt
import Derived.Test.YtigjppamjfnmcaaM4
import Derived.Test.YtigjppamjfnmcaaDrawnLast
import Derived.Test.YtigjppamjfnmcaaPktDefs
namespace Go.Proofs.Ytigjppamjfnmcaa
open Go.ChangeShapes Go.WideShapes Go.ChangeAt Go.RowKit
set_option linter.unusedVariables false
set_option maxRecDepth 10000

theorem kept9 {w w' : World} {c0 c1 c2 c3 c4 c5 c6 c7 c8 : Value} {t : TypeId} (h : Since (w.alloc (.cells #[c0, c1, c2, c3, c4, c5, c6, c7, c8] t)) w') :
    w'.cell? ⟨w.heap.size, 0, none⟩ = some c0 ∧ w'.cell? ⟨w.heap.size, 1, none⟩ = some c1 ∧ w'.cell? ⟨w.heap.size, 2, none⟩ = some c2 ∧
    w'.cell? ⟨w.heap.size, 3, none⟩ = some c3 ∧ w'.cell? ⟨w.heap.size, 4, none⟩ = some c4 ∧ w'.cell? ⟨w.heap.size, 5, none⟩ = some c5 ∧
    w'.cell? ⟨w.heap.size, 6, none⟩ = some c6 ∧ w'.cell? ⟨w.heap.size, 7, none⟩ = some c7 ∧ w'.cell? ⟨w.heap.size, 8, none⟩ = some c8 := by
  have k : ∀ i : Nat, w'.cell? ⟨w.heap.size, i, none⟩ = #[c0, c1, c2, c3, c4, c5, c6, c7, c8][i]? := fun i => by
    rw [Below.cell h (p := ⟨w.heap.size, i, none⟩) (by simp)]
    exact World.cell?_alloc_mark w _ _ _ i
  exact ⟨k 0, k 1, k 2, k 3, k 4, k 5, k 6, k 7, k 8⟩

/-- A panic with a text. -/
def Threw (e : Ending) : Prop := ∃ v, e = .panicked [{ v := .iface 9 v, recovered := false }]

theorem readShort (s : ByteArray) (hs : ¬ (20 ≤ s.size ∧ s.size ≤ 2000)) (w : World) :
    Calls Try.prog 54 #[.string s] w fun e w' => Threw e ∧ Since w w' := by
  by_cases h : 20 ≤ s.size
  · have h1 : decide ((20 : Int) ≤ (s.size : Int)) = true := by simp; omega
    have h2 : decide ((s.size : Int) ≤ 2000) = false := by simp; omega
    clear hs h
    go_enter Try.func54, Try.ntmps54
    go_wp2_with (go_at_call_of 71 (Value.bool false); refine (must_false _).mono ?_; rintro _ _ ⟨⟨v, rfl⟩, rfl⟩)
    exact ⟨rfl, ⟨v, rfl⟩, (Since.refl _).alloc _⟩
  · have h1 : decide ((20 : Int) ≤ (s.size : Int)) = false := by simp; omega
    clear hs h
    go_enter Try.func54, Try.ntmps54
    go_wp2_with (go_at_call_of 71 (Value.bool false); refine (must_false _).mono ?_; rintro _ _ ⟨⟨v, rfl⟩, rfl⟩)
    exact ⟨rfl, ⟨v, rfl⟩, (Since.refl _).alloc _⟩

set_option maxHeartbeats 8000000 in
theorem readPacket (s : ByteArray) (hs : 20 ≤ s.size ∧ s.size ≤ 2000) (w : World) :
    Calls Try.prog 54 #[.string s] w fun e w' => ((readOk s ∧ e = .returned (readVal s)) ∨ (¬ readOk s ∧ Threw e)) ∧ Since w w' := by
  have h1 : decide ((20 : Int) ≤ (s.size : Int)) = true := by simp; omega
  have h2 : decide ((s.size : Int) ≤ 2000) = true := by simp; omega
  go_enter Try.func54, Try.ntmps54
  go_wp2_with (first | (go_at_call_of 71 (Value.bool true); refine (must_true _).mono ?_; rintro _ _ ⟨rfl, rfl⟩) | (go_at_call 72; refine (fieldsOfPacket _).mono ?_; rintro _ w1 ⟨b0, b1, b2, b3, b4, b5, b6, b7, b8, rfl, g1, H0, H1, H2, H3, H4, H5, H6, H7, H8⟩; unfold fnVal))
  have G := Since.refl (w1.alloc (.cells #[.func (.func 82) #[] #[.pointer (some ⟨b0, 0, none⟩)], .func (.func 82) #[] #[.pointer (some ⟨b1, 0, none⟩)], .func (.func 82) #[] #[.pointer (some ⟨b2, 0, none⟩)], .func (.func 82) #[] #[.pointer (some ⟨b3, 0, none⟩)], .func (.func 83) #[] #[.pointer (some ⟨b4, 0, none⟩)], .func (.func 83) #[] #[.pointer (some ⟨b5, 0, none⟩)], .func (.func 82) #[] #[.pointer (some ⟨b6, 0, none⟩)], .func (.func 84) #[] #[.pointer (some ⟨b7, 0, none⟩)], .func (.func 84) #[] #[.pointer (some ⟨b8, 0, none⟩)]] 112))
  have HW : Since w1 (w1.alloc (.cells #[.func (.func 82) #[] #[.pointer (some ⟨b0, 0, none⟩)], .func (.func 82) #[] #[.pointer (some ⟨b1, 0, none⟩)], .func (.func 82) #[] #[.pointer (some ⟨b2, 0, none⟩)], .func (.func 82) #[] #[.pointer (some ⟨b3, 0, none⟩)], .func (.func 83) #[] #[.pointer (some ⟨b4, 0, none⟩)], .func (.func 83) #[] #[.pointer (some ⟨b5, 0, none⟩)], .func (.func 82) #[] #[.pointer (some ⟨b6, 0, none⟩)], .func (.func 84) #[] #[.pointer (some ⟨b7, 0, none⟩)], .func (.func 84) #[] #[.pointer (some ⟨b8, 0, none⟩)]] 112)) := (Since.refl _).alloc _
  have HR := g1.trans HW
  have HB : Since w (w1.alloc (.cells #[.func (.func 82) #[] #[.pointer (some ⟨b0, 0, none⟩)], .func (.func 82) #[] #[.pointer (some ⟨b1, 0, none⟩)], .func (.func 82) #[] #[.pointer (some ⟨b2, 0, none⟩)], .func (.func 82) #[] #[.pointer (some ⟨b3, 0, none⟩)], .func (.func 83) #[] #[.pointer (some ⟨b4, 0, none⟩)], .func (.func 83) #[] #[.pointer (some ⟨b5, 0, none⟩)], .func (.func 82) #[] #[.pointer (some ⟨b6, 0, none⟩)], .func (.func 84) #[] #[.pointer (some ⟨b7, 0, none⟩)], .func (.func 84) #[] #[.pointer (some ⟨b8, 0, none⟩)]] 112)) := ((Since.refl _).alloc _).trans HR
  refine (halfFrom1 s b0 0 (by omega) (by omega) _ (H0.since (HW.trans G)).2).mono ?_
  rintro _ x2 ⟨rfl, g⟩
  replace G := Since.trans G g
  obtain ⟨K0, K1, K2, K3, K4, K5, K6, K7, K8⟩ := kept9 G
  by_cases hx0 : halfAt s 0 = 17664
  case neg =>
    have hb : (halfAt s 0 == 17664) = false := by simp [hx0]
    go_wp2_with (go_at_call_of 71 (Value.bool false); refine (must_false _).mono ?_; rintro _ _ ⟨⟨v, rfl⟩, rfl⟩)
    exact ⟨rfl, .inr ⟨fun h => hx0 h.1, v, rfl⟩, HB.trans G⟩
  rw [hx0]
  go_wp2_with (go_at_call_of 71 (Value.bool true); refine (must_true _).mono ?_; rintro _ _ ⟨rfl, rfl⟩)
  refine (halfFrom1 s b1 2 (by omega) (by omega) _ (H1.since (HW.trans G)).2).mono ?_
  rintro _ x3 ⟨rfl, g⟩
  replace G := Since.trans G g
  obtain ⟨K0, K1, K2, K3, K4, K5, K6, K7, K8⟩ := kept9 G
  by_cases hx2 : halfAt s 2 = (s.size : Int)
  case neg =>
    have hb : (halfAt s 2 == (s.size : Int)) = false := by simp [hx2]
    go_wp2_with (go_at_call_of 71 (Value.bool false); refine (must_false _).mono ?_; rintro _ _ ⟨⟨v, rfl⟩, rfl⟩)
    exact ⟨rfl, .inr ⟨fun h => hx2 h.2.1, v, rfl⟩, HB.trans G⟩
  rw [hx2]
  go_wp2_with (go_at_call_of 71 (Value.bool true); refine (must_true _).mono ?_; rintro _ _ ⟨rfl, rfl⟩)
  refine (halfFrom1 s b3 6 (by omega) (by omega) _ (H3.since (HW.trans G)).2).mono ?_
  rintro _ x4 ⟨rfl, g⟩
  replace G := Since.trans G g
  obtain ⟨K0, K1, K2, K3, K4, K5, K6, K7, K8⟩ := kept9 G
  by_cases hx6 : halfAt s 6 = 16384
  case neg =>
    have hb : (halfAt s 6 == 16384) = false := by simp [hx6]
    go_wp2_with (go_at_call_of 71 (Value.bool false); refine (must_false _).mono ?_; rintro _ _ ⟨⟨v, rfl⟩, rfl⟩)
    exact ⟨rfl, .inr ⟨fun h => hx6 h.2.2.1, v, rfl⟩, HB.trans G⟩
  rw [hx6]
  go_wp2_with (go_at_call_of 71 (Value.bool true); refine (must_true _).mono ?_; rintro _ _ ⟨rfl, rfl⟩)
  have hck : ∀ x, Calls Try.prog 46 #[.string (s.extract 0 10), .string (s.extract 12 20)] x fun e w' => e = .returned (.int .i64 (checksum (s.extract 0 10 ++ two 0 ++ s.extract 12 20))) ∧ Since x w' := fun x => sumOfHeader _ _ (by simp; omega) (by simp; omega) x
  generalize hc : checksum (s.extract 0 10 ++ two 0 ++ s.extract 12 20) = ck at hck
  obtain ⟨wb, hwb⟩ : ∃ wb, w1.alloc (.cells #[.func (.func 82) #[] #[.pointer (some ⟨b0, 0, none⟩)], .func (.func 82) #[] #[.pointer (some ⟨b1, 0, none⟩)], .func (.func 82) #[] #[.pointer (some ⟨b2, 0, none⟩)], .func (.func 82) #[] #[.pointer (some ⟨b3, 0, none⟩)], .func (.func 83) #[] #[.pointer (some ⟨b4, 0, none⟩)], .func (.func 83) #[] #[.pointer (some ⟨b5, 0, none⟩)], .func (.func 82) #[] #[.pointer (some ⟨b6, 0, none⟩)], .func (.func 84) #[] #[.pointer (some ⟨b7, 0, none⟩)], .func (.func 84) #[] #[.pointer (some ⟨b8, 0, none⟩)]] 112) = wb := ⟨_, rfl⟩
  have hk : ∀ x, Since wb x → Since (w1.alloc (.cells #[.func (.func 82) #[] #[.pointer (some ⟨b0, 0, none⟩)], .func (.func 82) #[] #[.pointer (some ⟨b1, 0, none⟩)], .func (.func 82) #[] #[.pointer (some ⟨b2, 0, none⟩)], .func (.func 82) #[] #[.pointer (some ⟨b3, 0, none⟩)], .func (.func 83) #[] #[.pointer (some ⟨b4, 0, none⟩)], .func (.func 83) #[] #[.pointer (some ⟨b5, 0, none⟩)], .func (.func 82) #[] #[.pointer (some ⟨b6, 0, none⟩)], .func (.func 84) #[] #[.pointer (some ⟨b7, 0, none⟩)], .func (.func 84) #[] #[.pointer (some ⟨b8, 0, none⟩)]] 112)) x := fun x h => by rw [hwb]; exact h
  rw [hwb] at G HW HR HB
  have q1 : (10 : Int) ≤ (s.size : Int) := by omega
  have q3 : (20 : Int) ≤ (s.size : Int) := by omega
  clear hwb K0 K1 K2 K3 K4 K5 K6 K7 K8
  refine wp_region_then (wb := wb) (fun i _ v => match i with
        | 0 => v = .pointer (some ⟨w1.heap.size, 6, none⟩)
        | 1 => v = .func (.func 82) #[] #[.pointer (some ⟨b6, 0, none⟩)]
        | 2 => v = .string s
        | 3 => v = .int .i64 (halfAt s 10)
        | 4 => v = .string s
        | 5 => v = .string (s.extract 0 10)
        | 6 => v = .string s
        | 7 => v = .string (s.extract 12 20)
        | 8 => v = .int .i64 ck
        | 9 => v = .bool (halfAt s 10 == ck)
        | _ => True) (fun vals => { tmps := #[.string s, undef, .pointer (some ⟨w.heap.size, 0, none⟩), .pointer (some ⟨w1.heap.size, 0, none⟩), .string s, .int .i64 (s.size : Int), .bool true, .bool true, .string s, .int .i64 (s.size : Int), .bool true, .bool true, .tuple #[], .agg #[.func (.func 82) #[] #[.pointer (some ⟨b0, 0, none⟩)], .func (.func 82) #[] #[.pointer (some ⟨b1, 0, none⟩)], .func (.func 82) #[] #[.pointer (some ⟨b2, 0, none⟩)], .func (.func 82) #[] #[.pointer (some ⟨b3, 0, none⟩)], .func (.func 83) #[] #[.pointer (some ⟨b4, 0, none⟩)], .func (.func 83) #[] #[.pointer (some ⟨b5, 0, none⟩)], .func (.func 82) #[] #[.pointer (some ⟨b6, 0, none⟩)], .func (.func 84) #[] #[.pointer (some ⟨b7, 0, none⟩)], .func (.func 84) #[] #[.pointer (some ⟨b8, 0, none⟩)]], .pointer (some ⟨w1.heap.size, 0, none⟩), .func (.func 82) #[] #[.pointer (some ⟨b0, 0, none⟩)], .string s, .int .i64 17664, .bool true, .tuple #[], .pointer (some ⟨w1.heap.size, 1, none⟩), .func (.func 82) #[] #[.pointer (some ⟨b1, 0, none⟩)], .string s, .int .i64 (s.size : Int), .string s, .int .i64 (s.size : Int), .bool true, .tuple #[], .pointer (some ⟨w1.heap.size, 3, none⟩), .func (.func 82) #[] #[.pointer (some ⟨b3, 0, none⟩)], .string s, .int .i64 16384, .bool true, .tuple #[], vals 0, vals 1, vals 2, vals 3, vals 4, vals 5, vals 6, vals 7, vals 8, vals 9, undef, undef, undef, undef, undef, undef, undef, undef, undef, undef, undef, undef, undef, undef, undef, undef, undef, undef, undef, undef, undef, undef, undef, undef, undef], defers := [] }) (by kernel_rfl) (by kernel_rfl) (by kernel_rfl) G (fun _ _ _ _ _ h => h) (fun vals => by kernel_rfl) ?_
  repeat (first | refine eachThen_cons ?_ ?_ | refine eachThen_one ?_)
  case' refine_1.refine_1.refine_1.refine_1.refine_1.refine_1.refine_1.refine_1.refine_1.refine_1 =>
    intro vals x hx hv
    have v0 : vals 0 = _ := hv 0 (by decide)
    have v1 : vals 1 = _ := hv 1 (by decide)
    have v2 : vals 2 = _ := hv 2 (by decide)
    have v3 : vals 3 = _ := hv 3 (by decide)
    have v4 : vals 4 = _ := hv 4 (by decide)
    have v5 : vals 5 = _ := hv 5 (by decide)
    have v6 : vals 6 = _ := hv 6 (by decide)
    have v7 : vals 7 = _ := hv 7 (by decide)
    have v8 : vals 8 = _ := hv 8 (by decide)
    have v9 : vals 9 = _ := hv 9 (by decide)
    clear hv
    by_cases hxc : halfAt s 10 = ck
    case neg =>
      have hb : (halfAt s 10 == ck) = false := by simp [hxc]
      rw [hb] at v9
      unfold Oper.wp
      simp [go_sem, v9]
      refine (must_false _).mono ?_
      rintro _ _ ⟨⟨v, rfl⟩, rfl⟩
      exact ⟨rfl, .inr ⟨fun h => hxc (h.2.2.2.trans hc), v, rfl⟩, HB.trans hx⟩
    have hb : (halfAt s 10 == ck) = true := by simp [hxc]
    rw [hb] at v9
    rw [hxc] at v3
    unfold Oper.wp
    simp [go_sem, v9]
    refine (must_true _).mono ?_
    rintro _ _ ⟨rfl, rfl⟩
    simp only [v0, v1, v2, v3, v4, v5, v6, v7, v8]
    clear v0 v1 v2 v3 v4 v5 v6 v7 v8 v9
    go_wp2
    refine wp_region_then (wb := wb) (fun i _ v => match i with
        | 0 => v = .pointer (some ⟨w1.heap.size, 7, none⟩)
        | 1 => v = .func (.func 84) #[] #[.pointer (some ⟨b7, 0, none⟩)]
        | 2 => v = .string s
        | 3 => v = .int .u32 (wordAt s 12)
        | 4 => v = .pointer (some ⟨w1.heap.size, 8, none⟩)
        | 5 => v = .func (.func 84) #[] #[.pointer (some ⟨b8, 0, none⟩)]
        | 6 => v = .string s
        | 7 => v = .int .u32 (wordAt s 16)
        | 8 => v = .pointer (some ⟨w1.heap.size, 2, none⟩)
        | 9 => v = .func (.func 82) #[] #[.pointer (some ⟨b2, 0, none⟩)]
        | 10 => v = .string s
        | 11 => v = .int .i64 (halfAt s 4)
        | 12 => v = .pointer (some ⟨w1.heap.size, 4, none⟩)
        | 13 => v = .func (.func 83) #[] #[.pointer (some ⟨b4, 0, none⟩)]
        | 14 => v = .string s
        | 15 => v = .int .i64 (byteAt s 8)
        | 16 => v = .pointer (some ⟨w1.heap.size, 5, none⟩)
        | 17 => v = .func (.func 83) #[] #[.pointer (some ⟨b5, 0, none⟩)]
        | 18 => v = .string s
        | 19 => v = .int .i64 (byteAt s 9)
        | 20 => v = .string s
        | 21 => v = .string (s.extract 20 s.size)
        | 22 => v = .string (s.extract 20 s.size)
        | 23 => v = .agg #[.int .u32 (wordAt s 12), .int .u32 (wordAt s 16), .int .i64 (halfAt s 4), .int .i64 (byteAt s 8), .int .i64 (byteAt s 9), .string (s.extract 20 s.size)]
        | _ => True) (fun vals => { tmps := #[.string s, undef, .pointer (some ⟨w.heap.size, 0, none⟩), .pointer (some ⟨w1.heap.size, 0, none⟩), .string s, .int .i64 (s.size : Int), .bool true, .bool true, .string s, .int .i64 (s.size : Int), .bool true, .bool true, .tuple #[], .agg #[.func (.func 82) #[] #[.pointer (some ⟨b0, 0, none⟩)], .func (.func 82) #[] #[.pointer (some ⟨b1, 0, none⟩)], .func (.func 82) #[] #[.pointer (some ⟨b2, 0, none⟩)], .func (.func 82) #[] #[.pointer (some ⟨b3, 0, none⟩)], .func (.func 83) #[] #[.pointer (some ⟨b4, 0, none⟩)], .func (.func 83) #[] #[.pointer (some ⟨b5, 0, none⟩)], .func (.func 82) #[] #[.pointer (some ⟨b6, 0, none⟩)], .func (.func 84) #[] #[.pointer (some ⟨b7, 0, none⟩)], .func (.func 84) #[] #[.pointer (some ⟨b8, 0, none⟩)]], .pointer (some ⟨w1.heap.size, 0, none⟩), .func (.func 82) #[] #[.pointer (some ⟨b0, 0, none⟩)], .string s, .int .i64 17664, .bool true, .tuple #[], .pointer (some ⟨w1.heap.size, 1, none⟩), .func (.func 82) #[] #[.pointer (some ⟨b1, 0, none⟩)], .string s, .int .i64 (s.size : Int), .string s, .int .i64 (s.size : Int), .bool true, .tuple #[], .pointer (some ⟨w1.heap.size, 3, none⟩), .func (.func 82) #[] #[.pointer (some ⟨b3, 0, none⟩)], .string s, .int .i64 16384, .bool true, .tuple #[], .pointer (some ⟨w1.heap.size, 6, none⟩), .func (.func 82) #[] #[.pointer (some ⟨b6, 0, none⟩)], .string s, .int .i64 ck, .string s, .string (s.extract 0 10), .string s, .string (s.extract 12 20), .int .i64 ck, .bool true, .tuple #[], vals 0, vals 1, vals 2, vals 3, vals 4, vals 5, vals 6, vals 7, vals 8, vals 9, vals 10, vals 11, vals 12, vals 13, vals 14, vals 15, vals 16, vals 17, vals 18, vals 19, vals 20, vals 21, vals 22, vals 23], defers := [] }) (by kernel_rfl) (by kernel_rfl) (by kernel_rfl) hx (fun _ _ _ _ _ h => h) (fun vals => by kernel_rfl) ?_
    clear hx x vals
    repeat (first | refine eachThen_cons ?_ ?_ | refine eachThen_one ?_)
    case' refine_1.refine_1.refine_1.refine_1.refine_1.refine_1.refine_1.refine_1.refine_1.refine_1.refine_1.refine_1.refine_1.refine_1.refine_1.refine_1.refine_1.refine_1.refine_1.refine_1.refine_1.refine_1.refine_1.refine_1 =>
      intro vals x hx hv
      have v0 : vals 0 = _ := hv 0 (by decide)
      have v1 : vals 1 = _ := hv 1 (by decide)
      have v2 : vals 2 = _ := hv 2 (by decide)
      have v3 : vals 3 = _ := hv 3 (by decide)
      have v4 : vals 4 = _ := hv 4 (by decide)
      have v5 : vals 5 = _ := hv 5 (by decide)
      have v6 : vals 6 = _ := hv 6 (by decide)
      have v7 : vals 7 = _ := hv 7 (by decide)
      have v8 : vals 8 = _ := hv 8 (by decide)
      have v9 : vals 9 = _ := hv 9 (by decide)
      have v10 : vals 10 = _ := hv 10 (by decide)
      have v11 : vals 11 = _ := hv 11 (by decide)
      have v12 : vals 12 = _ := hv 12 (by decide)
      have v13 : vals 13 = _ := hv 13 (by decide)
      have v14 : vals 14 = _ := hv 14 (by decide)
      have v15 : vals 15 = _ := hv 15 (by decide)
      have v16 : vals 16 = _ := hv 16 (by decide)
      have v17 : vals 17 = _ := hv 17 (by decide)
      have v18 : vals 18 = _ := hv 18 (by decide)
      have v19 : vals 19 = _ := hv 19 (by decide)
      have v20 : vals 20 = _ := hv 20 (by decide)
      have v21 : vals 21 = _ := hv 21 (by decide)
      have v22 : vals 22 = _ := hv 22 (by decide)
      have v23 : vals 23 = _ := hv 23 (by decide)
      clear hv
      have R := kept6 (HR.trans hx)
      obtain ⟨R0, R1, R2, R3, R4, R5⟩ := R
      have Z : ∀ i, x.frozen? ⟨w.heap.size, i, none⟩ = false := fun i => (Below.frozen (HR.trans hx) (p := ⟨w.heap.size, i, none⟩) (by simp)).trans (by simp)
      unfold Oper.wp
      simp [go_sem, v23, R0, R1, R2, R3, R4, R5, Z]
      clear Z
      go_wp2
      refine bodyPost_ret (v := readVal s) ?_ rfl ⟨.inl ⟨⟨hx0, hx2, hx6, hxc.trans hc.symm⟩, rfl⟩, ?_⟩
      · simp [results, go_sem, readVal, pktVal, World.cell?_setCell_same', World.cell?_setCell_other, R0, R1, R2, R3, R4, R5]
      · have HX : Since w x := HB.trans hx
        exact ((((((Below.setCell HX (p := ⟨w.heap.size, 0, none⟩) (Nat.le_refl _) _).setCell (p := ⟨w.heap.size, 1, none⟩) (Nat.le_refl _) _).setCell (p := ⟨w.heap.size, 2, none⟩) (Nat.le_refl _) _).setCell (p := ⟨w.heap.size, 3, none⟩) (Nat.le_refl _) _).setCell (p := ⟨w.heap.size, 4, none⟩) (Nat.le_refl _) _).setCell (p := ⟨w.heap.size, 5, none⟩) (Nat.le_refl _) _)
    all_goals intro vals x hx hv
    all_goals obtain ⟨K0, K1, K2, K3, K4, K5, K6, K7, K8⟩ := kept9 (hk x hx)
    all_goals try simp [Region.binds] at hv
    all_goals first
      | (simp [does, doesUpon, go_sem, hv, K2, K4, K5, K7, K8, Since.refl, q3]; done)
      | (simp [does, doesUpon, go_sem, hv]; go_at_call_of 84 (Value.pointer (some (Addr.mk b7 0 none))); refine (wordFrom1 s b7 12 (by omega) (by omega) x (H7.since (HW.trans hx)).2).mono ?_; rintro _ x' ⟨rfl, h1⟩; simp [h1]; done)
      | (simp [does, doesUpon, go_sem, hv]; go_at_call_of 84 (Value.pointer (some (Addr.mk b8 0 none))); refine (wordFrom1 s b8 16 (by omega) (by omega) x (H8.since (HW.trans hx)).2).mono ?_; rintro _ x' ⟨rfl, h1⟩; simp [h1]; done)
      | (simp [does, doesUpon, go_sem, hv]; go_at_call_of 82 (Value.pointer (some (Addr.mk b2 0 none))); refine (halfFrom1 s b2 4 (by omega) (by omega) x (H2.since (HW.trans hx)).2).mono ?_; rintro _ x' ⟨rfl, h1⟩; simp [h1]; done)
      | (simp [does, doesUpon, go_sem, hv]; go_at_call_of 83 (Value.pointer (some (Addr.mk b4 0 none))); refine (byteFrom1 s b4 8 (by omega) (by omega) x (H4.since (HW.trans hx)).2).mono ?_; rintro _ x' ⟨rfl, h1⟩; simp [h1]; done)
      | (simp [does, doesUpon, go_sem, hv]; go_at_call_of 83 (Value.pointer (some (Addr.mk b5 0 none))); refine (byteFrom1 s b5 9 (by omega) (by omega) x (H5.since (HW.trans hx)).2).mono ?_; rintro _ x' ⟨rfl, h1⟩; simp [h1]; done)
      | (simp [does, doesUpon, go_sem, hv]; go_at_call 23; refine (clone (s.extract 20 s.size) (by simp; omega) x).mono ?_; rintro _ x' ⟨rfl, h1⟩; simp [h1]; done)
  all_goals intro vals x hx hv
  all_goals obtain ⟨K0, K1, K2, K3, K4, K5, K6, K7, K8⟩ := kept9 (hk x hx)
  all_goals try simp [Region.binds] at hv
  all_goals first
    | (simp [does, doesUpon, go_sem, hv, K6, Since.refl, q1, q3]; done)
    | (simp [does, doesUpon, go_sem, hv]; go_at_call_of 82 (Value.pointer (some (Addr.mk b6 0 none))); refine (halfFrom1 s b6 10 (by omega) (by omega) x (H6.since (HW.trans hx)).2).mono ?_; rintro _ x' ⟨rfl, h1⟩; simp [h1]; done)
    | (simp [does, doesUpon, go_sem, hv]; go_at_call 46; refine (hck x).mono ?_; rintro _ x' ⟨rfl, h1⟩; simp [h1]; done)
end Go.Proofs.Ytigjppamjfnmcaa
