/-
  What is known while an end sends, as plain facts.
  Regions with guards, walked step by step behind a veil (no one looks into the walk by chance).
  Contract of impl's OutTake.
-/
import Derived.Test.YtfenlfijfjcdbaaGreatM17
import Derived.Test.YtfenlfijfjcdbaaGreatM25
import Derived.Test.YtfenlfijfjcdbaaGreatM7
import Derived.Great.BuildSlice
import Derived.Test.YtfenlfijfjcdbaaGreatOutImpl
import Derived.Test.YtfenlfijfjcdbaaGreatM3
namespace Go.Proofs.YtfenlfijfjcdbaaGreat
open Go.ChangeShapes Go.WideShapes Go.ChangeAt Go.RowKit
set_option linter.unusedVariables false
set_option maxRecDepth 10000

structure MayS (c : Cn) (ps : List (Int × ByteArray)) : Prop where
  st : 0 ≤ c.st ∧ c.st ≤ 9
  w_una : IsWord c.una
  w_nxt : IsWord c.nxt
  w_mx : IsWord c.mx
  w_oF : IsWord c.oF
  hod : c.oD.size ≤ 1048576
  gd : Good c.iN c.iD c.iR c.pn ps
  wnd : 0 ≤ c.wnd ∧ c.wnd ≤ 65535
  cX : 0 ≤ c.cX ∧ c.cX ≤ 65535
  left : leftC c ≤ 100000

def KeepsX (c : Cn) (ps : List (Int × ByteArray)) (now : Int) (x0 : List Sg) (d : Cn) (xs : List Sg) : Prop :=
  Sent c d ∧ leftC d ≤ leftC c ∧ (xs.length : Int) + max (leftC d) 0 ≤ x0.length + max (leftC c) 0 ∧ ∃ f : Nat, leftC d ≤ f ∧ piecesC ps now f d xs = piecesC ps now (leftC c).toNat c x0

theorem KeepsX.start {c : Cn} {ps : List (Int × ByteArray)} {now : Int} {x0 : List Sg} (h1 : IsWord c.nxt) (h2 : IsWord c.mx) : KeepsX c ps now x0 c x0 :=
  ⟨Sent.refl h1 h2, Int.le_refl _, Int.le_refl _, (leftC c).toNat, by omega, rfl⟩

theorem KeepsX.one {c : Cn} {ps : List (Int × ByteArray)} {now : Int} {x0 : List Sg} {d : Cn} {xs : List Sg} (h : KeepsX c ps now x0 d xs) (hg : goesB d = true) (hl : leftC (oneC d now) = leftC d - sizeN d ∧ 1 ≤ sizeN d ∧ sizeN d ≤ leftC d) : KeepsX c ps now x0 (oneC d now) (xs ++ [pieceSg d ps]) := by
  obtain ⟨s, h1, h2, f, h3, e⟩ := h
  refine ⟨s.one now, by omega, by simp; omega, ?_⟩
  cases f with
  | zero => omega
  | succ f =>
    refine ⟨f, by omega, ?_⟩
    rw [← e]
    conv => rhs; unfold piecesC
    rw [hg]
    rfl

theorem measX {c d : Cn} {now : Int} (s : Sent c d) (s1 : Sent c (oneC d now)) (hl : leftC (oneC d now) = leftC d - sizeN d ∧ 1 ≤ sizeN d ∧ sizeN d ≤ leftC d) : (distI (oneC d now).nxt (behindC c)).toNat < (distI d.nxt (behindC c)).toNat := by
  have e1 : behindC c = behindC (oneC d now) := by unfold behindC; rw [s1.oF, s1.oD]
  have e2 : behindC c = behindC d := by unfold behindC; rw [s.oF, s.oD]
  have l1 : distI (oneC d now).nxt (behindC c) = leftC (oneC d now) := by unfold leftC; rw [e1]
  have l2 : distI d.nxt (behindC c) = leftC d := by unfold leftC; rw [e2]
  rw [l1, l2]
  omega

theorem KeepsX.stop {c : Cn} {ps : List (Int × ByteArray)} {now : Int} {x0 : List Sg} {d : Cn} {xs : List Sg} (h : KeepsX c ps now x0 d xs) (hg : goesB d = false) : piecesC ps now (leftC c).toNat c x0 = (d, xs) := by
  obtain ⟨-, -, -, f, -, e⟩ := h
  rw [← e]
  cases f with
  | zero => rfl
  | succ f =>
    unfold piecesC
    rw [hg]
    rfl

theorem pieces_sent {c : Cn} {ps : List (Int × ByteArray)} {now : Int} : ∀ (f : Nat) (d : Cn) (xs : List Sg), Sent c d → Sent c (piecesC ps now f d xs).1
  | 0, d, xs, h => h
  | f + 1, d, xs, h => by
    unfold piecesC
    split
    · exact pieces_sent f _ _ (h.one now)
    · exact h

theorem pieces_len {ps : List (Int × ByteArray)} {now : Int} : ∀ (f : Nat) (d : Cn) (xs : List Sg), (piecesC ps now f d xs).2.length ≤ xs.length + f
  | 0, d, xs => Nat.le_refl _
  | f + 1, d, xs => by
    unfold piecesC
    split
    · have := pieces_len (ps := ps) (now := now) f (oneC d now) (xs ++ [pieceSg d ps])
      simp at this
      omega
    · simp

def sendX (c : Cn) (ps : List (Int × ByteArray)) (now : Int) (x0 : List Sg) : Cn × List Sg :=
  owe2 ps (prbC (fin2 ps now (piecesC ps now (leftC c).toNat c x0)).1 now, (fin2 ps now (piecesC ps now (leftC c).toNat c x0)).2)

theorem sendV_X (c : Cn) (ps : List (Int × ByteArray)) (now : Int) : sendV c ps now = sendX c ps now [] := rfl

theorem pieces_none {c : Cn} {ps : List (Int × ByteArray)} {now : Int} {x0 : List Sg} (h : sendsB c.st = false) (f : Nat) : piecesC ps now f c x0 = (c, x0) := by
  cases f with
  | zero => rfl
  | succ f =>
    unfold piecesC goesB
    rw [h]
    rfl

theorem sendX_none {c : Cn} {ps : List (Int × ByteArray)} {now : Int} {x0 : List Sg} (h : sendsB c.st = false) : sendX c ps now x0 = owe2 ps (c, x0) := by
  unfold sendX
  rw [pieces_none h]
  unfold fin2 finB
  rw [show (c, x0).1 = c from rfl, h]
  unfold prbC prbB
  simp [h]
end Go.Proofs.YtfenlfijfjcdbaaGreat

namespace Go.Proofs.YtfenlfijfjcdbaaGreat
open Go.ChangeShapes Go.WideShapes Go.ChangeAt Go.RowKit Go.Deep
set_option linter.unusedVariables false
set_option maxRecDepth 10000
set_option maxRecDepth 10000

theorem place_dist (f q m at' : Int) (n : Nat) (hm : IsAhead f q m) (ha : IsDist f q at') (hn : n ≤ 1048576) : decide (m < (n : Int) + 1) = decide (0 ≤ at' ∧ at' ≤ (n : Int)) := by
  obtain ⟨h1, h2, h3⟩ := hm
  obtain ⟨k1, k2, k3⟩ := ha
  have : (m < (n : Int) + 1) ↔ (0 ≤ at' ∧ at' ≤ (n : Int)) := by omega
  simp [this]

theorem implOutTake (f : Int) (d : ByteArray) (r q n at' : Int) (hf : IsWord f) (hq : IsWord q) (ha : IsDist f q at') (hd : d.size ≤ 1048576) (hn : IsInt n) (w : World) :
    Calls Tryz.prog 85 #[outVal f d r, .int .u32 q, .int .i64 n] w fun e w' => e = .returned (.string (takeT f d r q n at')) ∧ Since w w' := by
  have ho := fun wx => implOutOk f d r wx
  have hi1 := fun wx => isAmount n wx
  have hdist := fun wx => implDist f q at' hf hq ha wx
  obtain ⟨mm, hm⟩ := isAhead_ex f q
  have hpl := fun wx => hasPlace f d r q mm hf hq hm hd wx
  rw [place_dist f q mm at' d.size hm ha hd] at hpl
  have G : Since w (w.alloc (.cells #[.int .u32 f, .string d, .int .i64 r] 35)) := (Since.refl _).alloc _
  have A := Blk.new w #[.int .u32 f, .string d, .int .i64 r] 35
  clear hm
  unfold takeT
  cases hk : outOk d r
  · rw [if_neg (by simp)]
    rw [hk] at ho
    unfold outVal at *
    go_enter Tryz.func85, Tryz.ntmps85
    go_wp2_with (first | (go_at_call 77; refine (ho _).mono ?_; rintro _ w1 ⟨rfl, g1⟩; replace G := G.trans g1; replace A := A.since g1; have a0 := A.cell 0; have a1 := A.cell 1; have a2 := A.cell 2; simp at a0 a1 a2) | (go_at_call 104; refine (hi1 _).mono ?_; rintro _ _ ⟨rfl, rfl⟩) | (go_at_call 105; refine (hpl _).mono ?_; rintro _ w4 ⟨rfl, g4⟩; replace G := G.trans g4; replace A := A.since g4))
    go_ret
    exact ⟨rfl, G⟩
  · rw [hk] at ho
    obtain ⟨h1, h2, h3⟩ := (outOk_iff d r).1 hk
    obtain ⟨m, rfl⟩ := Int.eq_ofNat_of_zero_le (show 0 ≤ r by omega)
    by_cases c1 : 0 ≤ n ∧ n ≤ 4096
    · rw [show decide (0 ≤ n ∧ n ≤ 4096) = true by simp; omega] at hi1
      by_cases c2 : 0 ≤ at' ∧ at' ≤ d.size
      · rw [show decide (0 ≤ at' ∧ at' ≤ (d.size : Int)) = true by simp; omega] at hpl
        rw [if_pos ⟨rfl, c1, c2⟩]
        obtain ⟨k, rfl⟩ := Int.eq_ofNat_of_zero_le c2.1
        obtain ⟨nn, rfl⟩ := Int.eq_ofNat_of_zero_le c1.1
        obtain ⟨_, c3⟩ := c2
        obtain ⟨_, c5⟩ := c1
        have hri := fun wx => ringOf f d m hf (by omega) (by omega) (by omega) wx
        rw [show ((k : Nat) : Int).toNat = k by omega]
        obtain ⟨t, ht⟩ : ∃ t, min ((nn : Nat) : Int).toNat (d.size - k) = t := ⟨_, rfl⟩
        rw [ht]
        have ht1 : t ≤ nn := by omega
        have ht2 : k + t ≤ d.size := by omega
        have ht3 : t = nn ∨ k + t = d.size := by omega
        replace ht3 : Hid _ := ht3
        have hD : textOf (fun j => byteAt d (k + j)) t = d.extract k (k + t) := textOf_is _ _ _ (by rw [ByteArray.size_extract]; omega) fun i hi => (bt_cut d k (k + t) i (by omega) (by omega)).symm
        replace hD : Hid _ := hD
        clear ht hk ha hn
        unfold outVal at *
        go_enter Tryz.func85, Tryz.ntmps85
        go_wp2_with (first | (go_at_call 77; refine (ho _).mono ?_; rintro _ w1 ⟨rfl, g1⟩; replace G := G.trans g1; replace A := A.since g1; have a0 := A.cell 0; have a1 := A.cell 1; have a2 := A.cell 2; simp at a0 a1 a2) | (go_at_call 104; refine (hi1 _).mono ?_; rintro _ _ ⟨rfl, rfl⟩) | (go_at_call 105; refine (hpl _).mono ?_; rintro _ w4 ⟨rfl, g4⟩; replace G := G.trans g4; replace A := A.since g4))
        refine wp_region_each (wb := w4) (fun i x v => match i with
            | 0 => v = .agg #[.int .u32 f, .string d, .int .i64 m]
            | 1 => ∃ rg, v = .pointer (some ⟨rg, 0, none⟩) ∧ ∃ c f3 fi, Ring x rg c m fi d.size f3 ∧ ∀ j, j < d.size → f3 ((fi + j) % m) = byteAt d j
            | 2 => v = .pointer (some ⟨w.heap.size, 0, none⟩)
            | 3 => v = .int .u32 f
            | 4 => v = .int .u32 q
            | 5 => v = .int .i64 k
            | 6 => v = .int .i64 nn
            | 7 => ∃ b, (∃ cap, v = .slice (some ⟨b, 0, none⟩) t cap) ∧ ∀ j, j < t → x.cell? ⟨b, j, none⟩ = some (.int .u8 (byteAt d (k + j)))
            | 8 => v = .string (d.extract k (k + t))
            | 9 => v = .string (d.extract k (k + t))
            | _ => True) (fun v => { tmps := #[Value.agg #[Value.int IntKind.u32 f, Value.string d, Value.int IntKind.i64 (m : Int)], Value.int IntKind.u32 q, Value.int IntKind.i64 (nn : Int), Value.pointer (some ⟨w.heap.size, 0, none⟩), undef, undef, v 9, Value.agg #[Value.int IntKind.u32 f, Value.string d, Value.int IntKind.i64 (m : Int)], Value.bool true, Value.bool false, Value.bool false, Value.int IntKind.i64 (nn : Int), Value.bool true, Value.bool false, Value.bool false, Value.bool false, Value.agg #[Value.int IntKind.u32 f, Value.string d, Value.int IntKind.i64 (m : Int)], Value.int IntKind.u32 q, Value.bool true, Value.bool false, Value.bool false, v 0, v 1, v 2, v 3, v 4, v 5, v 6, v 7, v 8], defers := [] }) (by kernel_rfl) (by kernel_rfl) (Since.refl _) ?_ (fun vals => by kernel_rfl) ?_ ?_
        case refine_1 =>
          intro j x x' v h1 h2
          match j, h2 with
          | 1, h2 =>
            obtain ⟨rg, e, c, f3, fi, R3, hb⟩ := h2
            exact ⟨rg, e, c, f3, fi, R3.since h1, hb⟩
          | 7, h2 =>
            obtain ⟨b, e, hc⟩ := h2
            exact ⟨b, e, fun j hj => (Below.cell h1 (p := ⟨b, j, none⟩) (World.block_lt_of_cell? _ _ (hc j hj))).trans (hc j hj)⟩
          | 0, h2 | 2, h2 | 3, h2 | 4, h2 | 5, h2 | 6, h2 | 8, h2 | 9, h2 => exact h2
          | n + 10, _ => trivial
        case refine_2 =>
          repeat (first | exact eachDoes_nil | refine eachDoes_cons ?_ ?_)
          all_goals intro vals x hx hv
          all_goals simp [Region.binds] at hv
          · simp [does, doesUpon, go_sem, hv, Since.refl]
          · obtain ⟨b, ⟨cap, e⟩, hc⟩ := hv
            have hb := bytesBack (fun j => byteAt d (k + j)) t cap b x hc
            rw [hD.out] at hb
            simp [does, doesUpon, go_sem, e, hb, Since.refl]
          · obtain ⟨⟨rg, e, c, f3, fi, R3, hb⟩, h5, h6⟩ := hv
            simp [does, doesUpon, go_sem, e, h5, h6]
            refine (taken rg c m fi d.size f3 k nn t (by omega) ht1 ht2 ht3.out (by omega) x R3).mono ?_
            rintro _ x' ⟨b, cap, rfl, hc, _, h1⟩
            exact ⟨_, rfl, h1, b, ⟨cap, rfl⟩, fun j hj => by rw [hc j hj, hb (k + j) (by omega)]⟩
          · simp [does, doesUpon, go_sem, Since.refl]
          · obtain ⟨h3, h4⟩ := hv
            simp [does, doesUpon, go_sem, h3, h4]
            refine (hdist x).mono ?_
            rintro _ _ ⟨rfl, rfl⟩
            simp [Since.refl]
          · simp [does, doesUpon, go_sem, Since.refl]
          · have e := (A.since hx).cell 0
            simp at e
            simp [does, doesUpon, go_sem, hv, e, Since.refl]
          · simp [does, doesUpon, go_sem, Since.refl]
          · simp [does, doesUpon, go_sem, hv]
            refine (hri x).mono ?_
            rintro _ x' ⟨rg, c, f3, fi, rfl, _, _, R3, hb, h1⟩
            exact ⟨_, rfl, h1, rg, rfl, c, f3, fi, R3, hb⟩
          · have e0 := (A.since hx).cell 0
            have e1 := (A.since hx).cell 1
            have e2 := (A.since hx).cell 2
            simp at e0 e1 e2
            simp [does, doesUpon, go_sem, e0, e1, e2, Since.refl]
        case refine_3 =>
          intro vals x hx hv
          have h9 : vals 9 = _ := hv 9 (by decide)
          clear hv
          simp only [h9]
          go_wp2
          go_ret
          exact ⟨rfl, G.trans hx⟩
      · rw [show decide (0 ≤ at' ∧ at' ≤ (d.size : Int)) = false by simp; omega] at hpl
        rw [if_neg (fun h => c2 h.2.2)]
        clear c2 ha hn
        unfold outVal at *
        go_enter Tryz.func85, Tryz.ntmps85
        go_wp2_with (first | (go_at_call 77; refine (ho _).mono ?_; rintro _ w1 ⟨rfl, g1⟩; replace G := G.trans g1; replace A := A.since g1; have a0 := A.cell 0; have a1 := A.cell 1; have a2 := A.cell 2; simp at a0 a1 a2) | (go_at_call 104; refine (hi1 _).mono ?_; rintro _ _ ⟨rfl, rfl⟩) | (go_at_call 105; refine (hpl _).mono ?_; rintro _ w4 ⟨rfl, g4⟩; replace G := G.trans g4; replace A := A.since g4))
        go_ret
        exact ⟨rfl, G⟩
    · rw [show decide (0 ≤ n ∧ n ≤ 4096) = false by simp; omega] at hi1
      rw [if_neg (fun h => c1 h.2.1)]
      clear c1 ha hn
      unfold outVal at *
      go_enter Tryz.func85, Tryz.ntmps85
      go_wp2_with (first | (go_at_call 77; refine (ho _).mono ?_; rintro _ w1 ⟨rfl, g1⟩; replace G := G.trans g1; replace A := A.since g1; have a0 := A.cell 0; have a1 := A.cell 1; have a2 := A.cell 2; simp at a0 a1 a2) | (go_at_call 104; refine (hi1 _).mono ?_; rintro _ _ ⟨rfl, rfl⟩) | (go_at_call 105; refine (hpl _).mono ?_; rintro _ w4 ⟨rfl, g4⟩; replace G := G.trans g4; replace A := A.since g4))
      go_ret
      exact ⟨rfl, G⟩
end Go.Proofs.YtfenlfijfjcdbaaGreat
