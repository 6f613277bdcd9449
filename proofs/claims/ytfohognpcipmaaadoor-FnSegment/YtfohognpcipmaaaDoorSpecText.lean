/-
  The line for people of a segment; contract of spec's SegText, at every segment.
-/
import Derived.Test.YtfohognpcipmaaaDoorDec
import Derived.Test.YtfohognpcipmaaaDoorSegOk
import Derived.Test.YtfohognpcipmaaaDoorCalm
namespace Go.Proofs.YtfohognpcipmaaaDoor
open Go.ChangeShapes Go.WideShapes Go.ChangeAt Go.RowKit
set_option linter.unusedVariables false

/-- The flags in the line's order. -/
def flagBit : Nat → Int
  | 0 => 2
  | 1 => 16
  | 2 => 1
  | 3 => 4
  | _ => 8

/-- Their letters. -/
def flagCh : Nat → UInt8
  | 0 => 83
  | 1 => 65
  | 2 => 70
  | 3 => 82
  | _ => 80

/-- The letters of the first i flags, of those that are set. -/
def flagT (fl : Int) : Nat → ByteArray
  | 0 => ⟨#[]⟩
  | i + 1 => if hasF fl (flagBit i) = true then flagT fl i ++ ⟨#[flagCh i]⟩ else flagT fl i

theorem flagBit_is (i : Nat) : IsFlag (flagBit i) := by
  match i with
  | 0 | 1 | 2 | 3 | n + 4 => simp [IsFlag, flagBit]

theorem flagT_size (fl : Int) (i : Nat) : (flagT fl i).size ≤ i := by
  induction i with
  | zero => exact Nat.le_refl _
  | succ i ih =>
    unfold flagT
    split
    · rw [ByteArray.size_append]
      have : (ByteArray.mk #[flagCh i]).size = 1 := rfl
      omega
    · omega

/-- The word of the flags. -/
def flagW (fl : Int) : ByteArray := if (flagT fl 5).size = 0 then ⟨#[45]⟩ else flagT fl 5

theorem flagW_size (fl : Int) : (flagW fl).size ≤ 5 := by
  have := flagT_size fl 5
  unfold flagW
  split
  · decide
  · omega

/-- The line. -/
def segLine (fr to sq ak fl wn ms : Int) (n : Nat) : ByteArray :=
  decT fr ++ ⟨#[32, 62, 32]⟩ ++ decT to ++ ⟨#[32]⟩ ++ decT sq ++ ⟨#[32]⟩ ++ decT ak ++ ⟨#[32]⟩ ++ flagW fl ++ ⟨#[32]⟩ ++ decT wn ++ ⟨#[32]⟩ ++ decT ms ++ ⟨#[32]⟩ ++ decT (n : Int)

/-- What SegText answers. -/
def segText (fr to sq ak fl wn ms : Int) (d : ByteArray) : ByteArray := if segOk fr to fl wn ms d = true then segLine fr to sq ak fl wn ms d.size else ⟨#[]⟩

theorem decT_size (n : Int) (h0 : 0 ≤ n) (h1 : n ≤ 4294967295) : (decT n).size ≤ 4294967296 := by
  obtain ⟨u, rfl⟩ := Int.eq_ofNat_of_zero_le h0
  have h := digits_len u
  unfold decT Lib.itoa
  rw [if_neg (by omega), Int.toNat_natCast]
  show (Lib.decDigits u).toArray.size ≤ _
  simp
  omega

theorem let_cut : ∀ j : Nat, j < 5 → (ByteArray.mk #[83, 65, 70, 82, 80]).extract j (j + 1) = ⟨#[flagCh j]⟩
  | 0, _ => by decide
  | 1, _ => by decide
  | 2, _ => by decide
  | 3, _ => by decide
  | 4, _ => by decide
  | j + 5, h => by omega

theorem text_empty' (t : ByteArray) (h : t.size = 0) : t = ⟨#[]⟩ := by
  cases t with
  | mk a =>
    have : a = #[] := Array.eq_empty_of_size_eq_zero h
    rw [this]

theorem textsApart {t s : ByteArray} (h : t ≠ s) : (t.toList == s.toList) = false := by
  rw [beq_eq_false_iff_ne]
  intro e
  rw [ByteArray.toList_eq, ByteArray.toList_eq] at e
  exact h (bytes_inj e)

theorem text_full' (t : ByteArray) (h : t.size ≠ 0) : (t.toList == ([] : List UInt8)) = false := by
  have h1 := textsApart (t := t) (s := ⟨#[]⟩) (fun e => h (by rw [e]; rfl))
  rwa [show (⟨#[]⟩ : ByteArray).toList = [] by unfold ByteArray.toList ByteArray.toList.loop; rfl] at h1

theorem addT (a b : ByteArray) (h : a.size + b.size ≤ 9223372036854775807) (w : World) : (Op.stringOp .add a b).run Tryd.prog w = .ok (.string (a ++ b)) w := run_string_add_sum (P := Tryd.prog) w a b h

set_option maxHeartbeats 4000000 in
theorem specSegText (fr to sq ak fl wn ms : Int) (d : ByteArray) (hsq : IsWord sq) (hak : IsWord ak) (hf : IsInt fl) (w : World) :
    Calls Tryd.prog 11 #[segVal fr to sq ak fl wn ms d] w fun e w' => e = .returned (.string (segText fr to sq ak fl wn ms d)) ∧ Since w w' := by
  have hok := fun wx => specSegOk fr to sq ak fl wn ms d hf wx
  have hn : ∀ (x : Bool) (w : World), (Op.unary .not (.bool x)).run Tryd.prog w = .ok (.bool (!x)) w := fun _ _ => rfl
  unfold segVal at hok ⊢
  have G := Since.refl (w.alloc (.cells #[.int .i64 fr, .int .i64 to, .int .u32 sq, .int .u32 ak, .int .i64 fl, .int .i64 wn, .int .i64 ms, .string d] 26))
  by_cases h : segOk fr to fl wn ms d = true
  case neg =>
    rw [segText, if_neg h]
    rw [show segOk fr to fl wn ms d = false by simpa using h] at hok
    clear h
    go_enter Tryd.func11, Tryd.ntmps11
    go_wp2_with (first | (go_at_call 7; refine (hok _).mono ?_; rintro _ w1 ⟨rfl, g1⟩; replace G := Since.trans G g1))
    go_ret
    exact ⟨rfl, ((Since.refl _).alloc _).trans G⟩
  rw [segText, if_pos h]
  rw [h] at hok
  simp only [segOk, mssFits, Bool.and_eq_true, Bool.or_eq_true, decide_eq_true_eq] at h
  obtain ⟨⟨f0, f1⟩, ⟨o0, o1⟩, ⟨l0, l1⟩, ⟨n0, n1⟩, hm, hz⟩ := h
  go_enter Tryd.func11, Tryd.ntmps11
  go_wp2_with (first | (go_at_call 7; refine (hok _).mono ?_; rintro _ w1 ⟨rfl, g1⟩; replace G := Since.trans G g1))
  obtain ⟨wb, hwb⟩ : ∃ wb, w1.alloc (.cells #[.int .i64 2, .int .i64 16, .int .i64 1, .int .i64 4, .int .i64 8] 3) = wb := ⟨_, rfl⟩
  have HB : Since w wb := by rw [← hwb]; exact (((Since.refl _).alloc _).trans G).alloc _
  have hk : ∀ x, Since wb x → Since (w.alloc (.cells #[.int .i64 fr, .int .i64 to, .int .u32 sq, .int .u32 ak, .int .i64 fl, .int .i64 wn, .int .i64 ms, .string d] 26)) x := fun x h => (G.alloc _).trans (by rw [hwb]; exact h)
  have hbits : ∀ j, j < 5 → ∀ x, Since wb x → x.cell? ⟨w1.heap.size, j, none⟩ = some (.int .i64 (flagBit j)) := by
    intro j hj x hx
    rw [Below.cell hx (p := ⟨w1.heap.size, j, none⟩) (by rw [← hwb]; simp), ← hwb, World.cell?_alloc_mark]
    match j, hj with
    | 0, _ => rfl
    | 1, _ => rfl
    | 2, _ => rfl
    | 3, _ => rfl
    | 4, _ => rfl
  rw [hwb]
  clear hwb hok
  have hne : Nonempty (Later wb) := ⟨⟨wb, Since.refl _⟩⟩
  have C0 : ∀ x : Later wb, x.val.cell? ⟨w.heap.size, 0, none⟩ = some (.int .i64 fr) := fun x => (kept8 (w := w) (hk _ x.ok)).1
  have C1 : ∀ x : Later wb, x.val.cell? ⟨w.heap.size, 1, none⟩ = some (.int .i64 to) := fun x => (kept8 (w := w) (hk _ x.ok)).2.1
  have C2 : ∀ x : Later wb, x.val.cell? ⟨w.heap.size, 2, none⟩ = some (.int .u32 sq) := fun x => (kept8 (w := w) (hk _ x.ok)).2.2.1
  have C3 : ∀ x : Later wb, x.val.cell? ⟨w.heap.size, 3, none⟩ = some (.int .u32 ak) := fun x => (kept8 (w := w) (hk _ x.ok)).2.2.2.1
  have C4 : ∀ x : Later wb, x.val.cell? ⟨w.heap.size, 4, none⟩ = some (.int .i64 fl) := fun x => (kept8 (w := w) (hk _ x.ok)).2.2.2.2.1
  have C5 : ∀ x : Later wb, x.val.cell? ⟨w.heap.size, 5, none⟩ = some (.int .i64 wn) := fun x => (kept8 (w := w) (hk _ x.ok)).2.2.2.2.2.1
  have C6 : ∀ x : Later wb, x.val.cell? ⟨w.heap.size, 6, none⟩ = some (.int .i64 ms) := fun x => (kept8 (w := w) (hk _ x.ok)).2.2.2.2.2.2.1
  have C7 : ∀ x : Later wb, x.val.cell? ⟨w.heap.size, 7, none⟩ = some (.string d) := fun x => (kept8 (w := w) (hk _ x.ok)).2.2.2.2.2.2.2
  clear hk G g1
  go_loopw [3, 5] (fun o ii wr => ∃ (j : Nat), ii = .int .i64 (j : Int) ∧ j ≤ 5 ∧ o = .string (flagT fl j) ∧ Since wb wr) (fun _ ii _ => 5 - (intOf ii).toNat)
  case atStart => exact ⟨0, rfl, by omega, rfl, Since.refl _⟩
  case round =>
    obtain ⟨j, rfl, hj, rfl, hs⟩ := hrel
    by_cases hlt : j < 5
    · have hlt' : (j : Int) < 5 := by omega
      have hj0 : 0 ≤ (j : Int) := by omega
      have Cj : ∀ x : Later wb, x.val.cell? ⟨w1.heap.size, j, none⟩ = some (.int .i64 (flagBit j)) := fun x => hbits j hlt x.val x.ok
      have hh : ∀ x : Later wb, Calls Tryd.prog 23 #[.int .i64 fl, .int .i64 (flagBit j)] x.val fun e w'' => e = .returned (.bool (hasF fl (flagBit j))) ∧ ∃ y : Later wb, w'' = y.val := fun x => calm_call ((specHas fl (flagBit j) l0 hf (flagBit_is j) x.val).mono fun _ _ ⟨h1, h2⟩ => ⟨h1, h2 ▸ Since.refl _⟩)
      have hjn : IntKind.i64.wrap ((j : Int) + 1) = (j : Int) + 1 := by rw [IntWalk.i64_left]; exact IntWalk.wrap64_in _ ⟨by omega, by omega⟩
      have hcut := let_cut j hlt
      have hsz := flagT_size fl j
      have hap := fun wx => addT (flagT fl j) ⟨#[flagCh j]⟩ (by have : (ByteArray.mk #[flagCh j]).size = 1 := rfl; omega) wx
      have hnext : flagT fl (j + 1) = if hasF fl (flagBit j) = true then flagT fl j ++ ⟨#[flagCh j]⟩ else flagT fl j := rfl
      clear hbits hj hsz
      go_wp2
      refine wp_region_calm (wb := wb) (by kernel_rfl) (by kernel_rfl) hs ?_
      repeat (go_big_quiet_step (exact hh _))
      refine wpQuiet_nil ?_
      rintro _ ⟨x1, rfl⟩
      generalize hasF fl (flagBit j) = hb at hnext
      cases hb
      · have hnx : flagT fl (j + 1) = flagT fl j := by rw [hnext]; rfl
        clear hnext hh
        go_wp2
        go_roundw
        case rel => exact ⟨j + 1, by go_num, by omega, by rw [hnx], x1.ok⟩
        case measure =>
          simp [intOf]
          omega
      · have hnx : flagT fl (j + 1) = flagT fl j ++ ⟨#[flagCh j]⟩ := by rw [hnext]; rfl
        clear hnext hh
        go_wp2
        go_roundw
        case rel => exact ⟨j + 1, by go_num, by omega, by rw [hnx], x1.ok⟩
        case measure =>
          simp [intOf]
          omega
    · obtain rfl : j = 5 := by omega
      clear hbits hlt hj
      have hFt : (flagT fl 5).size ≠ 0 → ((flagT fl 5).toList == ([] : List UInt8)) = false := text_full' _
      have hFe : (flagT fl 5).size = 0 → flagT fl 5 = ⟨#[]⟩ := text_empty' _
      have hW : flagW fl = if (flagT fl 5).size = 0 then ⟨#[45]⟩ else flagT fl 5 := rfl
      have hF5 := flagT_size fl 5
      generalize flagT fl 5 = F5 at hFt hFe hW hF5
      by_cases hF : F5.size = 0
      · rw [if_pos hF] at hW
        obtain rfl := hFe hF
        clear hF hFt hFe hF5
        go_wp2
        have hdc : ∀ n (x : Later wb), 0 ≤ n ∧ n ≤ 4294967295 → Calls Tryd.prog 36 #[.int .i64 n] x.val fun e w'' => e = .returned (.string (decT n)) ∧ ∃ y : Later wb, w'' = y.val := fun n x hn => calm_call ((specDec n hn.1 hn.2 x.val).mono fun _ _ ⟨h1, h2⟩ => ⟨h1, h2 ▸ Since.refl _⟩)
        have msq : IntKind.i64.wrap sq = sq := by rw [IntWalk.i64_left]; exact IntWalk.wrap64_in _ ⟨by have := hsq.1; omega, by have := hsq.2; omega⟩
        have mak : IntKind.i64.wrap ak = ak := by rw [IntWalk.i64_left]; exact IntWalk.wrap64_in _ ⟨by have := hak.1; omega, by have := hak.2; omega⟩
        have q1 : 0 ≤ fr ∧ fr ≤ 4294967295 := by omega
        have z1 := decT_size fr q1.1 q1.2
        have q2 : 0 ≤ to ∧ to ≤ 4294967295 := by omega
        have z2 := decT_size to q2.1 q2.2
        have q3 : 0 ≤ sq ∧ sq ≤ 4294967295 := ⟨hsq.1, by have := hsq.2; omega⟩
        have z3 := decT_size sq q3.1 q3.2
        have q4 : 0 ≤ ak ∧ ak ≤ 4294967295 := ⟨hak.1, by have := hak.2; omega⟩
        have z4 := decT_size ak q4.1 q4.2
        have q5 : 0 ≤ wn ∧ wn ≤ 4294967295 := by omega
        have z5 := decT_size wn q5.1 q5.2
        have q6 : 0 ≤ ms ∧ ms ≤ 4294967295 := by omega
        have z6 := decT_size ms q6.1 q6.2
        have q7 : 0 ≤ (d.size : Int) ∧ (d.size : Int) ≤ 4294967295 := by omega
        have z7 := decT_size (d.size : Int) q7.1 q7.2
        have s1 : (ByteArray.mk #[32]).size = 1 := rfl
        have s3 : (ByteArray.mk #[32, 62, 32]).size = 3 := rfl
        have sF : (ByteArray.mk #[45]).size = 1 := rfl
        have hline : segLine fr to sq ak fl wn ms d.size = decT fr ++ ⟨#[32, 62, 32]⟩ ++ decT to ++ ⟨#[32]⟩ ++ decT sq ++ ⟨#[32]⟩ ++ decT ak ++ ⟨#[32]⟩ ++ ⟨#[45]⟩ ++ ⟨#[32]⟩ ++ decT wn ++ ⟨#[32]⟩ ++ decT ms ++ ⟨#[32]⟩ ++ decT (d.size : Int) := by rw [segLine, hW]
        have a1 := fun wx => addT (decT fr) (⟨#[32, 62, 32]⟩) (by simp only [s3]; omega) wx
        have a2 := fun wx => addT (decT fr ++ ⟨#[32, 62, 32]⟩) (decT to) (by simp only [ByteArray.size_append, s3]; omega) wx
        have a3 := fun wx => addT (decT fr ++ ⟨#[32, 62, 32]⟩ ++ decT to) (⟨#[32]⟩) (by simp only [ByteArray.size_append, s1, s3]; omega) wx
        have a4 := fun wx => addT (decT fr ++ ⟨#[32, 62, 32]⟩ ++ decT to ++ ⟨#[32]⟩) (decT sq) (by simp only [ByteArray.size_append, s1, s3]; omega) wx
        have a5 := fun wx => addT (decT fr ++ ⟨#[32, 62, 32]⟩ ++ decT to ++ ⟨#[32]⟩ ++ decT sq) (⟨#[32]⟩) (by simp only [ByteArray.size_append, s1, s3]; omega) wx
        have a6 := fun wx => addT (decT fr ++ ⟨#[32, 62, 32]⟩ ++ decT to ++ ⟨#[32]⟩ ++ decT sq ++ ⟨#[32]⟩) (decT ak) (by simp only [ByteArray.size_append, s1, s3]; omega) wx
        have a7 := fun wx => addT (decT fr ++ ⟨#[32, 62, 32]⟩ ++ decT to ++ ⟨#[32]⟩ ++ decT sq ++ ⟨#[32]⟩ ++ decT ak) (⟨#[32]⟩) (by simp only [ByteArray.size_append, s1, s3]; omega) wx
        have a8 := fun wx => addT (decT fr ++ ⟨#[32, 62, 32]⟩ ++ decT to ++ ⟨#[32]⟩ ++ decT sq ++ ⟨#[32]⟩ ++ decT ak ++ ⟨#[32]⟩) (⟨#[45]⟩) (by simp only [ByteArray.size_append, s1, s3, sF]; omega) wx
        have a9 := fun wx => addT (decT fr ++ ⟨#[32, 62, 32]⟩ ++ decT to ++ ⟨#[32]⟩ ++ decT sq ++ ⟨#[32]⟩ ++ decT ak ++ ⟨#[32]⟩ ++ ⟨#[45]⟩) (⟨#[32]⟩) (by simp only [ByteArray.size_append, s1, s3, sF]; omega) wx
        have a10 := fun wx => addT (decT fr ++ ⟨#[32, 62, 32]⟩ ++ decT to ++ ⟨#[32]⟩ ++ decT sq ++ ⟨#[32]⟩ ++ decT ak ++ ⟨#[32]⟩ ++ ⟨#[45]⟩ ++ ⟨#[32]⟩) (decT wn) (by simp only [ByteArray.size_append, s1, s3, sF]; omega) wx
        have a11 := fun wx => addT (decT fr ++ ⟨#[32, 62, 32]⟩ ++ decT to ++ ⟨#[32]⟩ ++ decT sq ++ ⟨#[32]⟩ ++ decT ak ++ ⟨#[32]⟩ ++ ⟨#[45]⟩ ++ ⟨#[32]⟩ ++ decT wn) (⟨#[32]⟩) (by simp only [ByteArray.size_append, s1, s3, sF]; omega) wx
        have a12 := fun wx => addT (decT fr ++ ⟨#[32, 62, 32]⟩ ++ decT to ++ ⟨#[32]⟩ ++ decT sq ++ ⟨#[32]⟩ ++ decT ak ++ ⟨#[32]⟩ ++ ⟨#[45]⟩ ++ ⟨#[32]⟩ ++ decT wn ++ ⟨#[32]⟩) (decT ms) (by simp only [ByteArray.size_append, s1, s3, sF]; omega) wx
        have a13 := fun wx => addT (decT fr ++ ⟨#[32, 62, 32]⟩ ++ decT to ++ ⟨#[32]⟩ ++ decT sq ++ ⟨#[32]⟩ ++ decT ak ++ ⟨#[32]⟩ ++ ⟨#[45]⟩ ++ ⟨#[32]⟩ ++ decT wn ++ ⟨#[32]⟩ ++ decT ms) (⟨#[32]⟩) (by simp only [ByteArray.size_append, s1, s3, sF]; omega) wx
        have a14 := fun wx => addT (decT fr ++ ⟨#[32, 62, 32]⟩ ++ decT to ++ ⟨#[32]⟩ ++ decT sq ++ ⟨#[32]⟩ ++ decT ak ++ ⟨#[32]⟩ ++ ⟨#[45]⟩ ++ ⟨#[32]⟩ ++ decT wn ++ ⟨#[32]⟩ ++ decT ms ++ ⟨#[32]⟩) (decT (d.size : Int)) (by simp only [ByteArray.size_append, s1, s3, sF]; omega) wx
        clear z1 z2 z3 z4 z5 z6 z7 s1 s3 sF hm
        refine wp_region_calm (wb := wb) (by kernel_rfl) (by kernel_rfl) hs ?_
        repeat (go_big_quiet_step ((refine hdc _ _ ?_; assumption)))
        refine wpQuiet_nil ?_
        rintro _ ⟨x1, rfl⟩
        clear hdc a1 a2 a3 a4 a5 a6 a7 a8 a9 a10 a11 a12 a13 a14
        go_wp2
        go_ret
        refine ⟨?_, HB.trans x1.ok⟩
        rw [hline]
        rfl
      · rw [if_neg hF] at hW
        replace hFt := hFt hF
        clear hF hFe
        go_wp2
        have hdc : ∀ n (x : Later wb), 0 ≤ n ∧ n ≤ 4294967295 → Calls Tryd.prog 36 #[.int .i64 n] x.val fun e w'' => e = .returned (.string (decT n)) ∧ ∃ y : Later wb, w'' = y.val := fun n x hn => calm_call ((specDec n hn.1 hn.2 x.val).mono fun _ _ ⟨h1, h2⟩ => ⟨h1, h2 ▸ Since.refl _⟩)
        have msq : IntKind.i64.wrap sq = sq := by rw [IntWalk.i64_left]; exact IntWalk.wrap64_in _ ⟨by have := hsq.1; omega, by have := hsq.2; omega⟩
        have mak : IntKind.i64.wrap ak = ak := by rw [IntWalk.i64_left]; exact IntWalk.wrap64_in _ ⟨by have := hak.1; omega, by have := hak.2; omega⟩
        have q1 : 0 ≤ fr ∧ fr ≤ 4294967295 := by omega
        have z1 := decT_size fr q1.1 q1.2
        have q2 : 0 ≤ to ∧ to ≤ 4294967295 := by omega
        have z2 := decT_size to q2.1 q2.2
        have q3 : 0 ≤ sq ∧ sq ≤ 4294967295 := ⟨hsq.1, by have := hsq.2; omega⟩
        have z3 := decT_size sq q3.1 q3.2
        have q4 : 0 ≤ ak ∧ ak ≤ 4294967295 := ⟨hak.1, by have := hak.2; omega⟩
        have z4 := decT_size ak q4.1 q4.2
        have q5 : 0 ≤ wn ∧ wn ≤ 4294967295 := by omega
        have z5 := decT_size wn q5.1 q5.2
        have q6 : 0 ≤ ms ∧ ms ≤ 4294967295 := by omega
        have z6 := decT_size ms q6.1 q6.2
        have q7 : 0 ≤ (d.size : Int) ∧ (d.size : Int) ≤ 4294967295 := by omega
        have z7 := decT_size (d.size : Int) q7.1 q7.2
        have s1 : (ByteArray.mk #[32]).size = 1 := rfl
        have s3 : (ByteArray.mk #[32, 62, 32]).size = 3 := rfl
        have sF : F5.size = F5.size := rfl
        have hline : segLine fr to sq ak fl wn ms d.size = decT fr ++ ⟨#[32, 62, 32]⟩ ++ decT to ++ ⟨#[32]⟩ ++ decT sq ++ ⟨#[32]⟩ ++ decT ak ++ ⟨#[32]⟩ ++ F5 ++ ⟨#[32]⟩ ++ decT wn ++ ⟨#[32]⟩ ++ decT ms ++ ⟨#[32]⟩ ++ decT (d.size : Int) := by rw [segLine, hW]
        have a1 := fun wx => addT (decT fr) (⟨#[32, 62, 32]⟩) (by simp only [s3]; omega) wx
        have a2 := fun wx => addT (decT fr ++ ⟨#[32, 62, 32]⟩) (decT to) (by simp only [ByteArray.size_append, s3]; omega) wx
        have a3 := fun wx => addT (decT fr ++ ⟨#[32, 62, 32]⟩ ++ decT to) (⟨#[32]⟩) (by simp only [ByteArray.size_append, s1, s3]; omega) wx
        have a4 := fun wx => addT (decT fr ++ ⟨#[32, 62, 32]⟩ ++ decT to ++ ⟨#[32]⟩) (decT sq) (by simp only [ByteArray.size_append, s1, s3]; omega) wx
        have a5 := fun wx => addT (decT fr ++ ⟨#[32, 62, 32]⟩ ++ decT to ++ ⟨#[32]⟩ ++ decT sq) (⟨#[32]⟩) (by simp only [ByteArray.size_append, s1, s3]; omega) wx
        have a6 := fun wx => addT (decT fr ++ ⟨#[32, 62, 32]⟩ ++ decT to ++ ⟨#[32]⟩ ++ decT sq ++ ⟨#[32]⟩) (decT ak) (by simp only [ByteArray.size_append, s1, s3]; omega) wx
        have a7 := fun wx => addT (decT fr ++ ⟨#[32, 62, 32]⟩ ++ decT to ++ ⟨#[32]⟩ ++ decT sq ++ ⟨#[32]⟩ ++ decT ak) (⟨#[32]⟩) (by simp only [ByteArray.size_append, s1, s3]; omega) wx
        have a8 := fun wx => addT (decT fr ++ ⟨#[32, 62, 32]⟩ ++ decT to ++ ⟨#[32]⟩ ++ decT sq ++ ⟨#[32]⟩ ++ decT ak ++ ⟨#[32]⟩) (F5) (by simp only [ByteArray.size_append, s1, s3]; omega) wx
        have a9 := fun wx => addT (decT fr ++ ⟨#[32, 62, 32]⟩ ++ decT to ++ ⟨#[32]⟩ ++ decT sq ++ ⟨#[32]⟩ ++ decT ak ++ ⟨#[32]⟩ ++ F5) (⟨#[32]⟩) (by simp only [ByteArray.size_append, s1, s3]; omega) wx
        have a10 := fun wx => addT (decT fr ++ ⟨#[32, 62, 32]⟩ ++ decT to ++ ⟨#[32]⟩ ++ decT sq ++ ⟨#[32]⟩ ++ decT ak ++ ⟨#[32]⟩ ++ F5 ++ ⟨#[32]⟩) (decT wn) (by simp only [ByteArray.size_append, s1, s3]; omega) wx
        have a11 := fun wx => addT (decT fr ++ ⟨#[32, 62, 32]⟩ ++ decT to ++ ⟨#[32]⟩ ++ decT sq ++ ⟨#[32]⟩ ++ decT ak ++ ⟨#[32]⟩ ++ F5 ++ ⟨#[32]⟩ ++ decT wn) (⟨#[32]⟩) (by simp only [ByteArray.size_append, s1, s3]; omega) wx
        have a12 := fun wx => addT (decT fr ++ ⟨#[32, 62, 32]⟩ ++ decT to ++ ⟨#[32]⟩ ++ decT sq ++ ⟨#[32]⟩ ++ decT ak ++ ⟨#[32]⟩ ++ F5 ++ ⟨#[32]⟩ ++ decT wn ++ ⟨#[32]⟩) (decT ms) (by simp only [ByteArray.size_append, s1, s3]; omega) wx
        have a13 := fun wx => addT (decT fr ++ ⟨#[32, 62, 32]⟩ ++ decT to ++ ⟨#[32]⟩ ++ decT sq ++ ⟨#[32]⟩ ++ decT ak ++ ⟨#[32]⟩ ++ F5 ++ ⟨#[32]⟩ ++ decT wn ++ ⟨#[32]⟩ ++ decT ms) (⟨#[32]⟩) (by simp only [ByteArray.size_append, s1, s3]; omega) wx
        have a14 := fun wx => addT (decT fr ++ ⟨#[32, 62, 32]⟩ ++ decT to ++ ⟨#[32]⟩ ++ decT sq ++ ⟨#[32]⟩ ++ decT ak ++ ⟨#[32]⟩ ++ F5 ++ ⟨#[32]⟩ ++ decT wn ++ ⟨#[32]⟩ ++ decT ms ++ ⟨#[32]⟩) (decT (d.size : Int)) (by simp only [ByteArray.size_append, s1, s3]; omega) wx
        clear z1 z2 z3 z4 z5 z6 z7 s1 s3 sF hm hF5
        refine wp_region_calm (wb := wb) (by kernel_rfl) (by kernel_rfl) hs ?_
        repeat (go_big_quiet_step ((refine hdc _ _ ?_; assumption)))
        refine wpQuiet_nil ?_
        rintro _ ⟨x1, rfl⟩
        clear hdc a1 a2 a3 a4 a5 a6 a7 a8 a9 a10 a11 a12 a13 a14
        go_wp2
        go_ret
        refine ⟨?_, HB.trans x1.ok⟩
        rw [hline]
        rfl
end Go.Proofs.YtfohognpcipmaaaDoor
