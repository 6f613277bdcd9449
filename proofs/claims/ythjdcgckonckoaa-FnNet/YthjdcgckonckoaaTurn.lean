/-
  Contracts of impl's and spec's Turned, at every text of at most 1048576 bytes, every place and every number.
-/
import Derived.Test.YthjdcgckonckoaaSpecOnes
import Derived.Laws.IdiomStrings
import Derived.Laws.BytesArg
import Derived.Lib.LazyBuf
import Derived.WalkLawsBesides
namespace Go.Proofs.Ythjdcgckonckoaa
open Go.ChangeShapes Go.WideShapes Go.ChangeAt Go.RowKit
set_option linter.unusedVariables false

/-- The text of the first n of the numbers f 0, f 1 .. -/
def textOf (f : Nat → Int) (n : Nat) : ByteArray := strOfNums ((List.range n).map f)

theorem textOf_size (f : Nat → Int) (n : Nat) : (textOf f n).size = n := by
  simp [textOf, strOfNums_size]

theorem byteAt_textOf (f : Nat → Int) (n i : Nat) (hi : i < n) (h : 0 ≤ f i ∧ f i < 256) : byteAt (textOf f n) i = f i := by
  rw [byteAt_in _ _ (by rw [textOf_size]; exact hi)]
  have e : (textOf f n)[i]'(by rw [textOf_size]; exact hi) = UInt8.ofNat (f i).toNat := by
    show (textOf f n).data[i]'_ = _
    simp [textOf, strOfNums]
  rw [e, UInt8.toNat_ofNat']
  omega

theorem text_ext (s t : ByteArray) (h : s.size = t.size) (hb : ∀ i, i < s.size → byteAt s i = byteAt t i) : s = t := by
  have hd : s.data = t.data := by
    apply Array.ext
    · exact h
    · intro i h1 h2
      have := hb i h1
      rw [byteAt_in s i h1, byteAt_in t i h2] at this
      exact UInt8.toNat_inj.1 (by exact_mod_cast this)
  cases s
  cases t
  exact congrArg ByteArray.mk hd

theorem textOf_bytes (s : ByteArray) : textOf (byteAt s) s.size = s :=
  text_ext _ _ (textOf_size _ _) fun i hi => by
    rw [textOf_size] at hi
    exact byteAt_textOf _ _ _ hi (byteAt_range s i)

/-- The bytes of a text in a new block. -/
theorem bytesOfText (s : ByteArray) (w : World) : ∃ cap w1, (convert 9 22 (.string s)).run Try.prog w = .ok (.slice (some ⟨w.heap.size, 0, none⟩) s.size cap) w1 ∧
    Below w.heap.size w w1 ∧ (∀ i, i < s.size → w1.cell? ⟨w.heap.size, i, none⟩ = some (.int .u8 (byteAt s i))) ∧ (∀ i, i < s.size → w1.frozen? ⟨w.heap.size, i, none⟩ = false) := by
  refine ⟨_, _, run_bytes_of_string w 9 22 5 s Try.underlying9 Try.underlying22 Try.underlying5, ?_, ?_, ?_⟩
  · exact (Below.refl _ w).drew.alloc (Nat.le_refl _) _
  · intro i hi
    refine (World.cell?_alloc_mark w.drew _ _ _ i).trans ?_
    rw [bytesRow_at s _ i hi, byteAt_in s i hi]
    rfl
  · intro i hi
    refine (World.frozen?_alloc_mark w.drew _ _ _ _ i).trans ?_
    have : i < (bytesRow s (grownCap w s.size 0 5)).size := by
      simp only [bytesRow, Array.size_append, Array.size_map]
      exact Nat.lt_of_lt_of_le hi (Nat.le_add_right _ _)
    simp
    omega

theorem bytesBack (f : Nat → Int) (n cap b : Nat) (w : World) (hc : ∀ i, i < n → w.cell? ⟨b, i, none⟩ = some (.int .u8 (f i))) :
    (convert 22 9 (.slice (some ⟨b, 0, none⟩) n cap)).run Try.prog w = .ok (.string (textOf f n)) w := by
  refine run_convert_bytes_arg _ 22 5 Try.underlying22 Try.underlying5 b 0 n cap _ (by simp) ?_ 9 Try.underlying9
  intro i hi
  rw [Nat.zero_add, hc i hi]
  simp [List.getD, hi]

/-- The bytes with half k turned by x. -/
def turnF (f : Nat → Int) (k : Nat) (x : Int) (i : Nat) : Int :=
  if i = 2 * k + 1 then bits .xor .u8 (f i) (x % 256) else if i = 2 * k then bits .xor .u8 (f i) (x / 256) else f i

theorem turned_cells (s : ByteArray) (k : Nat) (x : Int) (b : Nat) (w1 : World) (hk : 2 * k + 1 < s.size) (hcell : ∀ i, i < s.size → w1.cell? ⟨b, i, none⟩ = some (.int .u8 (byteAt s i))) :
    ∀ i, i < s.size → ((w1.setCell ⟨b, k * 2, none⟩ (.int .u8 (bits .xor .u8 (byteAt s (k * 2)) (x / 256)))).setCell ⟨b, k * 2 + 1, none⟩ (.int .u8 (bits .xor .u8 (byteAt s (k * 2 + 1)) (x % 256)))).cell? ⟨b, i, none⟩ = some (.int .u8 (turnF (byteAt s) k x i)) := by
  intro i hi
  unfold turnF
  by_cases h1 : i = k * 2 + 1
  · subst h1
    rw [if_pos (by omega)]
    exact World.cell?_setCell_same' _ _ _ (by rw [World.cell?_setCell_other _ _ _ _ (by simp), hcell _ hi]; rfl)
  · rw [if_neg (by omega), World.cell?_setCell_other _ _ _ _ (by simp)]
    by_cases h2 : i = k * 2
    · subst h2
      rw [if_pos (by omega)]
      exact World.cell?_setCell_same' _ _ _ (by rw [hcell _ hi]; rfl)
    · rw [if_neg (by omega), World.cell?_setCell_other _ _ _ _ (by simp), hcell _ hi]

theorem implTurnedIn (s : ByteArray) (k : Nat) (x : Int) (hk : 2 * k + 1 < s.size) (hx : 1 ≤ x ∧ x ≤ 65535) (hm : s.size ≤ 1048576) (w : World) :
    Calls Try.prog 39 #[.string s, .int .i64 (k : Int), .int .i64 x] w fun e w' => e = .returned (.string (textOf (turnF (byteAt s) k x) s.size)) ∧ Below w.heap.size w w' := by
  obtain ⟨cap, w1, hconv, hbel, hcell, hfro⟩ := bytesOfText s w
  have ih := fun wx => isHalf x wx
  rw [show decide (0 ≤ x ∧ x ≤ 65535) = true by simp; omega] at ih
  have ht := Int.tdiv_eq_ediv_of_nonneg (a := (s.size : Int)) (b := 2) (by omega)
  have hq : (k : Int) < (s.size : Int) / 2 := by omega
  have hx0 : (x != 0) = true := by simp; omega
  have c0 := hcell (k * 2) (by omega)
  have c1 := hcell (k * 2 + 1) (by omega)
  have f0 := hfro (k * 2) (by omega)
  have f1 := hfro (k * 2 + 1) (by omega)
  have a0 : (k : Int) * 2 < (s.size : Int) := by omega
  have a1 : (k : Int) * 2 + 1 < (s.size : Int) := by omega
  have hback := bytesBack (turnF (byteAt s) k x) s.size cap w.heap.size ((w1.setCell ⟨w.heap.size, k * 2, none⟩ (.int .u8 (bits .xor .u8 (byteAt s (k * 2)) (x / 256)))).setCell ⟨w.heap.size, k * 2 + 1, none⟩ (.int .u8 (bits .xor .u8 (byteAt s (k * 2 + 1)) (x % 256)))) (turned_cells s k x w.heap.size w1 hk hcell)
  clear hcell hfro
  go_enter Try.func39, Try.ntmps39
  go_wp2_with (go_at_call 43; refine (ih _).mono ?_; rintro _ _ ⟨rfl, rfl⟩)
  go_ret
  exact ⟨rfl, (hbel.setCell (p := ⟨w.heap.size, k * 2, none⟩) (Nat.le_refl _) _).setCell (p := ⟨w.heap.size, k * 2 + 1, none⟩) (Nat.le_refl _) _⟩

theorem specTurnedIn (s : ByteArray) (k : Nat) (x : Int) (hk : 2 * k + 1 < s.size) (hx : 1 ≤ x ∧ x ≤ 65535) (hm : s.size ≤ 1048576) (w : World) :
    Calls Try.prog 33 #[.string s, .int .i64 (k : Int), .int .i64 x] w fun e w' => e = .returned (.string (textOf (turnF (byteAt s) k x) s.size)) ∧ Below w.heap.size w w' := by
  obtain ⟨cap, w1, hconv, hbel, hcell, hfro⟩ := bytesOfText s w
  have i1 := fun wx => specIn (k : Int) 0 ((s.size : Int) / 2 - 1) wx
  have i2 := fun wx => specIn x 1 65535 wx
  rw [show decide (0 ≤ (k : Int) ∧ (k : Int) ≤ (s.size : Int) / 2 - 1) = true by simp; omega] at i1
  rw [show decide (1 ≤ x ∧ x ≤ 65535) = true by simp; omega] at i2
  have ht := Int.tdiv_eq_ediv_of_nonneg (a := (s.size : Int)) (b := 2) (by omega)
  have ht1 := Int.tdiv_eq_ediv_of_nonneg (a := x) (b := 256) (by omega)
  have ht2 := Int.tmod_eq_emod_of_nonneg (a := x) (b := 256) (by omega)
  have e0 : 2 * k = k * 2 := Nat.mul_comm _ _
  have c0 := hcell (2 * k) (by omega)
  have c1 := hcell (2 * k + 1) (by omega)
  have f0 := hfro (2 * k) (by omega)
  have f1 := hfro (2 * k + 1) (by omega)
  have a0 : 2 * (k : Int) < (s.size : Int) := by omega
  have a1 : 2 * (k : Int) + 1 < (s.size : Int) := by omega
  have hback := bytesBack (turnF (byteAt s) k x) s.size cap w.heap.size ((w1.setCell ⟨w.heap.size, k * 2, none⟩ (.int .u8 (bits .xor .u8 (byteAt s (k * 2)) (x / 256)))).setCell ⟨w.heap.size, k * 2 + 1, none⟩ (.int .u8 (bits .xor .u8 (byteAt s (k * 2 + 1)) (x % 256)))) (turned_cells s k x w.heap.size w1 hk hcell)
  rw [← e0] at hback
  clear hcell hfro e0
  go_enter Try.func33, Try.ntmps33
  go_wp2_with (first | (go_at_call 41; refine (i1 _).mono ?_; clear i1; rintro _ _ ⟨rfl, rfl⟩) | (go_at_call 41; refine (i2 _).mono ?_; clear i2; rintro _ _ ⟨rfl, rfl⟩))
  go_ret
  exact ⟨rfl, (hbel.setCell (p := ⟨w.heap.size, 2 * k, none⟩) (Nat.le_refl _) _).setCell (p := ⟨w.heap.size, 2 * k + 1, none⟩) (Nat.le_refl _) _⟩

theorem specTurnedOut (s : ByteArray) (k x : Int) (h : ¬ ((0 ≤ k ∧ k ≤ (s.size : Int) / 2 - 1) ∧ 1 ≤ x ∧ x ≤ 65535)) (hm : s.size ≤ 1048576) (w : World) :
    Calls Try.prog 33 #[.string s, .int .i64 k, .int .i64 x] w fun e w' => e = .returned (.string s) ∧ w = w' := by
  have i1 := fun wx => specIn k 0 ((s.size : Int) / 2 - 1) wx
  have i2 := fun wx => specIn x 1 65535 wx
  have ht := Int.tdiv_eq_ediv_of_nonneg (a := (s.size : Int)) (b := 2) (by omega)
  by_cases h1 : 0 ≤ k ∧ k ≤ (s.size : Int) / 2 - 1
  · have h2 : ¬ (1 ≤ x ∧ x ≤ 65535) := fun h2 => h ⟨h1, h2⟩
    rw [show decide (0 ≤ k ∧ k ≤ (s.size : Int) / 2 - 1) = true by simp; omega] at i1
    rw [show decide (1 ≤ x ∧ x ≤ 65535) = false by simp; omega] at i2
    clear h
    go_enter Try.func33, Try.ntmps33
    go_wp2_with (first | (go_at_call 41; refine (i1 _).mono ?_; clear i1; rintro _ _ ⟨rfl, rfl⟩) | (go_at_call 41; refine (i2 _).mono ?_; clear i2; rintro _ _ ⟨rfl, rfl⟩))
    go_ret
    exact ⟨rfl, rfl⟩
  · rw [show decide (0 ≤ k ∧ k ≤ (s.size : Int) / 2 - 1) = false by simp; omega] at i1
    clear h h1
    go_enter Try.func33, Try.ntmps33
    go_wp2_with (go_at_call 41; refine (i1 _).mono ?_; clear i1; rintro _ _ ⟨rfl, rfl⟩)
    go_ret
    exact ⟨rfl, rfl⟩

theorem implTurnedOut (s : ByteArray) (k x : Int) (h : ¬ ((0 ≤ k ∧ k ≤ (s.size : Int) / 2 - 1) ∧ 1 ≤ x ∧ x ≤ 65535)) (hm : s.size ≤ 1048576) (w : World) :
    Calls Try.prog 39 #[.string s, .int .i64 k, .int .i64 x] w fun e w' => e = .returned (.string s) ∧ Below w.heap.size w w' := by
  obtain ⟨cap, w1, hconv, hbel, hcell, hfro⟩ := bytesOfText s w
  have hback := bytesBack (byteAt s) s.size cap w.heap.size w1 hcell
  rw [textOf_bytes] at hback
  have ht := Int.tdiv_eq_ediv_of_nonneg (a := (s.size : Int)) (b := 2) (by omega)
  clear hcell hfro
  by_cases h1 : 0 ≤ k
  · by_cases h2 : k < (s.size : Int) / 2
    · by_cases h3 : x = 0
      · subst h3
        clear h
        go_enter Try.func39, Try.ntmps39
        go_wp2
        go_ret
        exact ⟨rfl, hbel⟩
      · have h3' : (x != 0) = true := by simp; omega
        have ih := fun wx => isHalf x wx
        rw [show decide (0 ≤ x ∧ x ≤ 65535) = false by simp; omega] at ih
        clear h h3
        go_enter Try.func39, Try.ntmps39
        go_wp2_with (go_at_call 43; refine (ih _).mono ?_; rintro _ _ ⟨rfl, rfl⟩)
        go_ret
        exact ⟨rfl, hbel⟩
    · clear h
      go_enter Try.func39, Try.ntmps39
      go_wp2
      go_ret
      exact ⟨rfl, hbel⟩
  · clear h
    go_enter Try.func39, Try.ntmps39
    go_wp2
    go_ret
    exact ⟨rfl, hbel⟩

/-- What Turned answers. -/
def turnOf (s : ByteArray) (k x : Int) : ByteArray :=
  if (0 ≤ k ∧ k ≤ (s.size : Int) / 2 - 1) ∧ 1 ≤ x ∧ x ≤ 65535 then textOf (turnF (byteAt s) k.toNat x) s.size else s

theorem implTurned (s : ByteArray) (k x : Int) (hm : s.size ≤ 1048576) (w : World) :
    Calls Try.prog 39 #[.string s, .int .i64 k, .int .i64 x] w fun e w' => e = .returned (.string (turnOf s k x)) ∧ Below w.heap.size w w' := by
  by_cases h : (0 ≤ k ∧ k ≤ (s.size : Int) / 2 - 1) ∧ 1 ≤ x ∧ x ≤ 65535
  · rw [turnOf, if_pos h]
    obtain ⟨n, rfl⟩ := Int.eq_ofNat_of_zero_le h.1.1
    exact implTurnedIn s n x (by omega) h.2 hm w
  · rw [turnOf, if_neg h]
    exact implTurnedOut s k x h hm w

theorem specTurned (s : ByteArray) (k x : Int) (hm : s.size ≤ 1048576) (w : World) :
    Calls Try.prog 33 #[.string s, .int .i64 k, .int .i64 x] w fun e w' => e = .returned (.string (turnOf s k x)) ∧ Below w.heap.size w w' := by
  by_cases h : (0 ≤ k ∧ k ≤ (s.size : Int) / 2 - 1) ∧ 1 ≤ x ∧ x ≤ 65535
  · rw [turnOf, if_pos h]
    obtain ⟨n, rfl⟩ := Int.eq_ofNat_of_zero_le h.1.1
    exact specTurnedIn s n x (by omega) h.2 hm w
  · rw [turnOf, if_neg h]
    refine (specTurnedOut s k x h hm w).mono ?_
    rintro _ _ ⟨rfl, rfl⟩
    exact ⟨rfl, Below.refl _ _⟩
end Go.Proofs.Ythjdcgckonckoaa
