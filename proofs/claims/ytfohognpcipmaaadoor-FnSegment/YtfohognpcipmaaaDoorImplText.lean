/-
  Contract of impl's SegText, where the tables that it reads are as the program lays them.
-/
import Derived.Test.YtfohognpcipmaaaDoorFlagsText
import Derived.Test.YtfohognpcipmaaaDoorTell
namespace Go.Proofs.YtfohognpcipmaaaDoor
open Go.ChangeShapes Go.WideShapes Go.ChangeAt Go.RowKit
set_option linter.unusedVariables false

theorem decT_pos (n : Int) (h0 : 0 ≤ n) : 1 ≤ (decT n).size := by
  obtain ⟨u, rfl⟩ := Int.eq_ofNat_of_zero_le h0
  unfold decT Lib.itoa
  rw [if_neg (by omega), Int.toNat_natCast]
  show 1 ≤ (Lib.decDigits u).toArray.size
  rw [Lib.decDigits]
  split <;> simp

theorem told_size (t w : ByteArray) : (told t w).size ≤ t.size + 1 + w.size := by
  unfold told
  split
  · omega
  · rw [ByteArray.size_append, ByteArray.size_append]
    have : (ByteArray.mk #[32]).size = 1 := rfl
    omega

theorem told_on (t w : ByteArray) (h : 1 ≤ t.size) : told t w = t ++ ⟨#[32]⟩ ++ w := by
  rw [told, if_neg (by omega)]

theorem line_told (fr to sq ak fl wn ms : Int) (n : Nat) (h : 0 ≤ fr) : (told (told (told (told (told (told (told (told (told (⟨#[]⟩ : ByteArray) (decT fr)) (⟨#[62]⟩)) (decT to)) (decT sq)) (decT ak)) (flagW fl)) (decT wn)) (decT ms)) (decT (n : Int))) = segLine fr to sq ak fl wn ms n := by
  have h1 := decT_pos fr h
  rw [show told (⟨#[]⟩ : ByteArray) (decT fr) = decT fr from if_pos rfl]
  rw [told_on (decT fr) (⟨#[62]⟩) (by first | omega | (simp only [ByteArray.size_append]; omega))]
  rw [told_on (decT fr ++ ⟨#[32]⟩ ++ ⟨#[62]⟩) (decT to) (by first | omega | (simp only [ByteArray.size_append]; omega))]
  rw [told_on (decT fr ++ ⟨#[32]⟩ ++ ⟨#[62]⟩ ++ ⟨#[32]⟩ ++ decT to) (decT sq) (by first | omega | (simp only [ByteArray.size_append]; omega))]
  rw [told_on (decT fr ++ ⟨#[32]⟩ ++ ⟨#[62]⟩ ++ ⟨#[32]⟩ ++ decT to ++ ⟨#[32]⟩ ++ decT sq) (decT ak) (by first | omega | (simp only [ByteArray.size_append]; omega))]
  rw [told_on (decT fr ++ ⟨#[32]⟩ ++ ⟨#[62]⟩ ++ ⟨#[32]⟩ ++ decT to ++ ⟨#[32]⟩ ++ decT sq ++ ⟨#[32]⟩ ++ decT ak) (flagW fl) (by first | omega | (simp only [ByteArray.size_append]; omega))]
  rw [told_on (decT fr ++ ⟨#[32]⟩ ++ ⟨#[62]⟩ ++ ⟨#[32]⟩ ++ decT to ++ ⟨#[32]⟩ ++ decT sq ++ ⟨#[32]⟩ ++ decT ak ++ ⟨#[32]⟩ ++ flagW fl) (decT wn) (by first | omega | (simp only [ByteArray.size_append]; omega))]
  rw [told_on (decT fr ++ ⟨#[32]⟩ ++ ⟨#[62]⟩ ++ ⟨#[32]⟩ ++ decT to ++ ⟨#[32]⟩ ++ decT sq ++ ⟨#[32]⟩ ++ decT ak ++ ⟨#[32]⟩ ++ flagW fl ++ ⟨#[32]⟩ ++ decT wn) (decT ms) (by first | omega | (simp only [ByteArray.size_append]; omega))]
  rw [told_on (decT fr ++ ⟨#[32]⟩ ++ ⟨#[62]⟩ ++ ⟨#[32]⟩ ++ decT to ++ ⟨#[32]⟩ ++ decT sq ++ ⟨#[32]⟩ ++ decT ak ++ ⟨#[32]⟩ ++ flagW fl ++ ⟨#[32]⟩ ++ decT wn ++ ⟨#[32]⟩ ++ decT ms) (decT (n : Int)) (by first | omega | (simp only [ByteArray.size_append]; omega))]
  unfold segLine
  rw [show (⟨#[32, 62, 32]⟩ : ByteArray) = ⟨#[32]⟩ ++ ⟨#[62]⟩ ++ ⟨#[32]⟩ from rfl]
  simp only [ByteArray.append_assoc]

/-- Midway: the text so far is the builder's, and all else is kept. -/
structure Mid (W : World) (b i : Nat) (t : ByteArray) (x : World) : Prop where
  bl : Bl (b + 2) b (Lib.strCells t) x
  kept : KeptBut (b + 2) b W x
  sz : t.size ≤ 5000000000 * i

theorem Mid.more {W x x' : World} {b i : Nat} {t : ByteArray} (m : Mid W b i t x) (word : ByteArray) (hw : word.size ≤ 4294967296) (h : Bl (b + 2) b (Lib.strCells (told t word)) x') (k : KeptBut (b + 2) b x x') : Mid W b (i + 1) (told t word) x' :=
  ⟨h, m.kept.trans k, by have := told_size t word; have := m.sz; omega⟩

theorem Mid.tell {W x : World} {b i : Nat} {t : ByteArray} (m : Mid W b i t x) (word : ByteArray) (hw : word.size ≤ 4294967296) (hi : i ≤ 12) :
    Calls Tryd.prog 27 #[.string word, .pointer (some ⟨b, 0, none⟩)] x fun e x' => e = .returned (.tuple #[]) ∧ Mid W b (i + 1) (told t word) x' :=
  (Go.Proofs.YtfohognpcipmaaaDoor.tell (b + 2) b t word x m.bl (by have := m.sz; omega)).mono fun e x' ⟨he, h, k⟩ => ⟨he, m.more word hw h k⟩

theorem Mid.number {W x : World} {b i : Nat} {t : ByteArray} (m : Mid W b i t x) (n : Int) (h0 : 0 ≤ n) (h1 : n ≤ 4294967295) (hi : i ≤ 12) (hc : W.cell? ⟨b + 1, 0, none⟩ = some (tellF b)) (ht : Tab W) (hg : 1 < b) :
    Calls Tryd.prog 31 #[.int .i64 n, .pointer (some ⟨b + 1, 0, none⟩)] x fun e x' => e = .returned (.tuple #[]) ∧ Mid W b (i + 1) (told t (decT n)) x' :=
  have hs := decT_size n h0 h1
  (Go.Proofs.YtfohognpcipmaaaDoor.number (b + 2) b (b + 1) t n h0 h1 x m.bl (by have := m.sz; omega) ((m.kept.cell (p := ⟨b + 1, 0, none⟩) (by show b + 1 < _; omega) (by show b + 1 ≠ _; omega)).trans hc) (by omega) (tab_kept ht (m.kept.block _ (by omega) (by omega))) (by have := m.bl.le; omega)).mono fun e x' ⟨he, h, k⟩ => ⟨he, m.more (decT n) hs h k⟩

theorem KeptBut.below {B b C : Nat} {x y : World} (h : KeptBut B b x y) (hC : C ≤ b) (hb : b ≤ B) : Below C x y := ⟨h.os, h.tape, h.output, h.size, fun i hi => h.block i (by omega) (by omega)⟩

theorem Mid.since {W x x' : World} {b i : Nat} {t : ByteArray} (m : Mid W b i t x) (h : Since x x') : Mid W b i t x' := ⟨m.bl.since h, m.kept.since h m.bl.le, m.sz⟩

theorem Mid.cells {W x : World} {b i p : Nat} {t : ByteArray} {c0 c1 c2 c3 c4 c5 c6 c7 : Value} (m : Mid W b i t x) (hp : p < b) (k : W.cell? ⟨p, 0, none⟩ = some c0 ∧ W.cell? ⟨p, 1, none⟩ = some c1 ∧ W.cell? ⟨p, 2, none⟩ = some c2 ∧ W.cell? ⟨p, 3, none⟩ = some c3 ∧ W.cell? ⟨p, 4, none⟩ = some c4 ∧ W.cell? ⟨p, 5, none⟩ = some c5 ∧ W.cell? ⟨p, 6, none⟩ = some c6 ∧ W.cell? ⟨p, 7, none⟩ = some c7) (hc : W.cell? ⟨b + 1, 0, none⟩ = some (tellF b)) :
    x.cell? ⟨p, 0, none⟩ = some c0 ∧ x.cell? ⟨p, 1, none⟩ = some c1 ∧ x.cell? ⟨p, 2, none⟩ = some c2 ∧ x.cell? ⟨p, 3, none⟩ = some c3 ∧ x.cell? ⟨p, 4, none⟩ = some c4 ∧ x.cell? ⟨p, 5, none⟩ = some c5 ∧ x.cell? ⟨p, 6, none⟩ = some c6 ∧ x.cell? ⟨p, 7, none⟩ = some c7 ∧ x.cell? ⟨b + 1, 0, none⟩ = some (.func (.func 27) #[] #[.pointer (some ⟨b, 0, none⟩)]) := by
  have h : ∀ j : Nat, x.cell? ⟨p, j, none⟩ = W.cell? ⟨p, j, none⟩ := fun j => m.kept.cell (p := ⟨p, j, none⟩) (by show p < _; omega) (by show p ≠ _; omega)
  obtain ⟨k0, k1, k2, k3, k4, k5, k6, k7⟩ := k
  exact ⟨(h 0).trans k0, (h 1).trans k1, (h 2).trans k2, (h 3).trans k3, (h 4).trans k4, (h 5).trans k5, (h 6).trans k6, (h 7).trans k7, (m.kept.cell (p := ⟨b + 1, 0, none⟩) (by show b + 1 < _; omega) (by show b + 1 ≠ _; omega)).trans hc⟩

theorem Mid.string {W x : World} {b i : Nat} {t : ByteArray} (m : Mid W b i t x) :
    Calls Tryd.prog 34 #[.pointer (some ⟨b, 0, none⟩)] x fun e x' => e = .returned (.string t) ∧ Below b x x' := by
  have hle := m.bl.le
  obtain ⟨p, v, hb, hp, hown⟩ := m.bl.held
  have hrow : x.ownsRow b 5 1 v (Lib.strCells t).length (Lib.strCells t) := by
    refine ⟨hown.1, ?_⟩
    rcases hown.2 with hn | ⟨g, cap, cur, hv, hg, rest⟩
    · exact .inl hn
    · exact .inr ⟨g, cap, cur, hv, by omega, rest⟩
  have hne : v.ownBlock ≠ some b := by
    rcases hown.2 with hn | ⟨g, cap, cur, hv, hg, rest⟩
    · rw [hn.1]; simp [Value.ownBlock]
    · rw [hv]; simp [Value.ownBlock]; omega
  have hB : Lib.IsBuilder 51 5 b b (Lib.byteCells t.data.toList) x := by
    rcases hp with rfl | rfl
    · exact .inl ⟨Nat.le_refl _, v, hb, hrow, hne⟩
    · exact .inr ⟨Nat.le_refl _, v, hb, hrow, hne⟩
  exact (Tryd.Builder_String_any b b t.data.toList x hB (by omega)).mono fun e x' ⟨he, k⟩ => ⟨by rw [he, Array.toArray_toList], k⟩

theorem Mid.start (z : World) : Mid ((z.alloc (.cells #[.pointer none, .slice none 0 0] 51)).alloc (.cells #[.func (.func 27) #[] #[.pointer (some ⟨z.heap.size, 0, none⟩)]] 58)) z.heap.size 0 ⟨#[]⟩ ((z.alloc (.cells #[.pointer none, .slice none 0 0] 51)).alloc (.cells #[.func (.func 27) #[] #[.pointer (some ⟨z.heap.size, 0, none⟩)]] 58)) := by
  refine ⟨⟨by omega, by simp, .pointer none, .slice none 0 0, ?_, .inl rfl, rfl, .inl ⟨rfl, rfl⟩⟩, KeptBut.refl _ _ _, Nat.le_refl _⟩
  rw [Below.heap_alloc _ _ _ (by simp)]
  exact heap_alloc_new z _

theorem start_cell (z : World) : ((z.alloc (.cells #[.pointer none, .slice none 0 0] 51)).alloc (.cells #[.func (.func 27) #[] #[.pointer (some ⟨z.heap.size, 0, none⟩)]] 58)).cell? ⟨z.heap.size + 1, 0, none⟩ = some (tellF z.heap.size) := by
  simp [tellF]

theorem letters_kept {w w' : World} (h : Letters w) (k : w'.heap[0]? = w.heap[0]?) : Letters w' := by
  have e : ∀ j : Nat, w'.cell? ⟨0, j, none⟩ = w.cell? ⟨0, j, none⟩ := fun j => World.cell?_of_block (w := w) k
  unfold Letters at h ⊢
  simp only [e]
  exact h

set_option maxHeartbeats 4000000 in
theorem implSegText (fr to sq ak fl wn ms : Int) (d : ByteArray) (hsq : IsWord sq) (hak : IsWord ak) (hf : IsInt fl) (w : World) (ht : Tab w) (hL : Letters w) (hg : 1 < w.heap.size) :
    Calls Tryd.prog 9 #[segVal fr to sq ak fl wn ms d] w fun e w' => e = .returned (.string (segText fr to sq ak fl wn ms d)) ∧ Since w w' := by
  have hok := fun wx => implSegOk fr to sq ak fl wn ms d hf wx
  have hn : ∀ (x : Bool) (w : World), (Op.unary .not (.bool x)).run Tryd.prog w = .ok (.bool (!x)) w := fun _ _ => rfl
  have hmf : ∀ (fn : Fn) (first cap : Array Value) (w : World), (Instr.makeFunc fn first cap).run Tryd.prog w = .ok (.func fn first cap) w := fun _ _ _ _ => rfl
  unfold segVal at hok ⊢
  have G := Since.refl (w.alloc (.cells #[.int .i64 fr, .int .i64 to, .int .u32 sq, .int .u32 ak, .int .i64 fl, .int .i64 wn, .int .i64 ms, .string d] 26))
  by_cases h : segOk fr to fl wn ms d = true
  case neg =>
    rw [segText, if_neg h]
    rw [show segOk fr to fl wn ms d = false by simpa using h] at hok
    clear h ht hL
    go_enter Tryd.func9, Tryd.ntmps9
    go_wp2_with (first | (go_at_call 8; refine (hok _).mono ?_; rintro _ w1 ⟨rfl, g1⟩; replace G := Since.trans G g1))
    go_ret
    exact ⟨rfl, ((Since.refl _).alloc _).trans G⟩
  rw [segText, if_pos h]
  rw [h] at hok
  simp only [segOk, mssFits, Bool.and_eq_true, Bool.or_eq_true, decide_eq_true_eq] at h
  obtain ⟨⟨f0, f1⟩, ⟨o0, o1⟩, ⟨l0, l1⟩, ⟨n0, n1⟩, hm, hz⟩ := h
  rw [← line_told fr to sq ak fl wn ms d.size (by omega)]
  go_enter Tryd.func9, Tryd.ntmps9
  have msq : IntKind.i64.wrap sq = sq := by rw [IntWalk.i64_left]; exact IntWalk.wrap64_in _ ⟨by have := hsq.1; omega, by have := hsq.2; omega⟩
  have mak : IntKind.i64.wrap ak = ak := by rw [IntWalk.i64_left]; exact IntWalk.wrap64_in _ ⟨by have := hak.1; omega, by have := hak.2; omega⟩
  have q3 : 0 ≤ sq ∧ sq ≤ 4294967295 := ⟨hsq.1, by have := hsq.2; omega⟩
  have q4 : 0 ≤ ak ∧ ak ≤ 4294967295 := ⟨hak.1, by have := hak.2; omega⟩
  have hgt : (ByteArray.mk #[62]).size ≤ 4294967296 := by decide
  have hfw : (flagW fl).size ≤ 4294967296 := by have := flagW_size fl; omega
  go_wp2_with (first | (go_at_call 8; refine (hok _).mono ?_; rintro _ z1 ⟨rfl, g1⟩; have G1 := Since.trans G g1; have hlP : w.heap.size < z1.heap.size := (by have := G1.le; simp at this; omega); have GW := (G1.alloc (.cells #[.pointer none, .slice none 0 0] 51)).alloc (.cells #[.func (.func 27) #[] #[.pointer (some ⟨z1.heap.size, 0, none⟩)]] 58); have HB := ((Since.refl w).alloc _).trans GW; have K8 := kept8 GW; have m := Mid.start z1; have hct := start_cell z1; have htW := tab_kept ht (HB.block _ hg); have hLW := letters_kept hL (HB.block _ (by omega)); have hgb := Nat.lt_trans hg hlP; obtain ⟨C0, C1, C2, C3, C4, C5, C6, C7, CT⟩ := Mid.cells m hlP K8 hct; clear hok G g1 G1 GW ht hL) | (go_at_call 31; refine Calls.mono (Mid.number m _ (by omega) (by omega) (by decide) hct htW hgb) ?_; rintro _ x1 ⟨rfl, m1⟩; replace m := m1; clear m1; clear C0 C1 C2 C3 C4 C5 C6 C7 CT; obtain ⟨C0, C1, C2, C3, C4, C5, C6, C7, CT⟩ := Mid.cells m hlP K8 hct) | (go_at_call 27; refine Calls.mono (Mid.tell m _ hgt (by decide)) ?_; rintro _ x1 ⟨rfl, m1⟩; replace m := m1; clear m1; clear C0 C1 C2 C3 C4 C5 C6 C7 CT; obtain ⟨C0, C1, C2, C3, C4, C5, C6, C7, CT⟩ := Mid.cells m hlP K8 hct))
  refine wp_region_tail (wb := x1) 4 (fun i x v => match i with
      | 0 => v = .func (.func 27) #[] #[.pointer (some ⟨z1.heap.size, 0, none⟩)]
      | 1 => v = .pointer (some ⟨w.heap.size, 4, none⟩)
      | 2 => v = .int .i64 fl
      | 3 => v = .string (flagW fl)
      | _ => True) (fun v => { tmps := #[.agg #[.int .i64 fr, .int .i64 to, .int .u32 sq, .int .u32 ak, .int .i64 fl, .int .i64 wn, .int .i64 ms, .string d], .pointer (some ⟨w.heap.size, 0, none⟩), .string ⟨#[]⟩, .pointer (some ⟨z1.heap.size, 0, none⟩), .pointer (some ⟨z1.heap.size + 1, 0, none⟩), .func (.func 31) #[] #[.pointer (some ⟨z1.heap.size + 1, 0, none⟩)], .agg #[.int .i64 fr, .int .i64 to, .int .u32 sq, .int .u32 ak, .int .i64 fl, .int .i64 wn, .int .i64 ms, .string d], .bool true, .bool false, .func (.func 27) #[] #[.pointer (some ⟨z1.heap.size, 0, none⟩)], .func (.func 31) #[] #[.pointer (some ⟨z1.heap.size + 1, 0, none⟩)], .func (.func 31) #[] #[.pointer (some ⟨z1.heap.size + 1, 0, none⟩)], .pointer (some ⟨w.heap.size, 0, none⟩), .int .i64 fr, .tuple #[], .func (.func 27) #[] #[.pointer (some ⟨z1.heap.size, 0, none⟩)], .tuple #[], .func (.func 31) #[] #[.pointer (some ⟨z1.heap.size + 1, 0, none⟩)], .pointer (some ⟨w.heap.size, 1, none⟩), .int .i64 to, .tuple #[], .func (.func 31) #[] #[.pointer (some ⟨z1.heap.size + 1, 0, none⟩)], .pointer (some ⟨w.heap.size, 2, none⟩), .int .u32 sq, .int .i64 sq, .tuple #[], .func (.func 31) #[] #[.pointer (some ⟨z1.heap.size + 1, 0, none⟩)], .pointer (some ⟨w.heap.size, 3, none⟩), .int .u32 ak, .int .i64 ak, .tuple #[], v 0, v 1, v 2, v 3, undef, undef, undef, undef, undef, undef, undef, undef, undef, undef, undef, undef, undef, undef, undef], defers := [] }) (by kernel_rfl) (by kernel_rfl) (by kernel_rfl) (Since.refl _) ?_ (fun vals => by kernel_rfl) ?_ ?_
  case refine_1 =>
    intro j x x' v h1 h2
    match j, h2 with
    | 0, h2 | 1, h2 | 2, h2 | 3, h2 => exact h2
    | k + 4, _ => trivial
  case refine_2 =>
    simp only [List.take_succ_cons, List.take_zero]
    have hcell := fun x (hx : Since x1 x) => Mid.cells (m.since hx) hlP K8 hct
    have hlet := fun x (hx : Since x1 x) => letters_kept hLW ((m.since hx).kept.block _ (by omega) (by omega))
    clear C0 C1 C2 C3 C4 C5 C6 C7 CT
    repeat (first | exact eachDoes_nil | refine eachDoes_cons ?_ ?_)
    all_goals intro vals x hx hv
    all_goals obtain ⟨C0, C1, C2, C3, C4, C5, C6, C7, CT⟩ := hcell x hx
    all_goals have hl := hlet x hx
    all_goals try simp [Region.binds] at hv
    all_goals first
      | (simp [does, doesUpon, go_sem, hv, C4, CT, Since.refl]; done)
      | (simp [does, doesUpon, go_sem, hv]; refine (flagsText fl hf x hl).mono ?_; rintro _ x' ⟨rfl, h1⟩; exact ⟨rfl, h1⟩)
  case refine_3 =>
    intro vals x hx hv
    have e0 : vals 0 = _ := hv 0 (by decide)
    have e1 : vals 1 = _ := hv 1 (by decide)
    have e2 : vals 2 = _ := hv 2 (by decide)
    have e3 : vals 3 = _ := hv 3 (by decide)
    clear hv
    simp only [e0, e1, e2, e3, List.drop_succ_cons, List.drop_zero]
    clear e0 e1 e2 e3
    replace m := m.since hx
    clear C0 C1 C2 C3 C4 C5 C6 C7 CT; obtain ⟨C0, C1, C2, C3, C4, C5, C6, C7, CT⟩ := Mid.cells m hlP K8 hct
    clear hx
    go_wp2_with (first | (go_at_call 31; refine Calls.mono (Mid.number m _ (by omega) (by omega) (by decide) hct htW hgb) ?_; rintro _ x1 ⟨rfl, m1⟩; replace m := m1; clear m1; clear C0 C1 C2 C3 C4 C5 C6 C7 CT; obtain ⟨C0, C1, C2, C3, C4, C5, C6, C7, CT⟩ := Mid.cells m hlP K8 hct) | (go_at_call 27; refine Calls.mono (Mid.tell m _ hfw (by decide)) ?_; rintro _ x1 ⟨rfl, m1⟩; replace m := m1; clear m1; clear C0 C1 C2 C3 C4 C5 C6 C7 CT; obtain ⟨C0, C1, C2, C3, C4, C5, C6, C7, CT⟩ := Mid.cells m hlP K8 hct) | (go_at_call 34; refine Calls.mono (Mid.string m) ?_; rintro _ x2 ⟨rfl, k2⟩))
    go_ret
    exact ⟨rfl, (Below.trans HB (m.kept.below (by omega) (by omega))).trans (k2.mono (by omega))⟩
end Go.Proofs.YtfohognpcipmaaaDoor
