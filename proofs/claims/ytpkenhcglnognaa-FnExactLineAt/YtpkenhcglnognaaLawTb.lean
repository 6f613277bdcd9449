/-
  A table's copy, as the laws make one: what is the same of both.
-/
import Derived.Test.YtpkenhcglnognaaTbLaw
import Derived.Test.YtpkenhcglnognaaTbOk
import Derived.Test.YtpkenhcglnognaaLaw11
namespace Go.Proofs.Ytpkenhcglnognaa
open Go.ChangeShapes Go.WideShapes Go.ChangeAt Go.RowKit Go.Deep
set_option linter.unusedVariables false
set_option maxRecDepth 10000

/-- The hosts of a line are words. -/
def WordL (l : Ln) : Prop := (0 ≤ l.hH ∧ l.hH < 4294967296) ∧ (0 ≤ l.tH ∧ l.tH < 4294967296)

/-- A table copied. -/
def cpT (t : Tb) (g : Nat) : Tb := { t with la := some ⟨g, 0, none⟩, lc := t.ln }

/-- The copy's list: its blocks lie from B on, ahead of M. -/
structure CpT (w : World) (B M : Nat) (n : Nat) (xs : List Ln) (pp : List (List (Int × ByteArray))) (g : Nat) (ys : List Ln) : Prop where
  ol : Ol w B g n n ys pp
  lk : Like n xs ys
  up : g < M
  un : ∀ i, i < n → ∀ q, (psl (lAt ys i).c).ownBlock = some q → q < M

theorem CpT.since {w x : World} {B M n : Nat} {xs ys : List Ln} {pp : List (List (Int × ByteArray))} {g : Nat} (h : CpT w B M n xs pp g ys) (s : Since w x) : CpT x B M n xs pp g ys := ⟨h.ol.since s, h.lk, h.up, h.un⟩

theorem CpT.touch {w x : World} {B M n b : Nat} {xs ys : List Ln} {pp : List (List (Int × ByteArray))} {g : Nat} (h : CpT w B M n xs pp g ys) (t : Touch b w x) (hb : b < B ∨ M ≤ b) : CpT x B M n xs pp g ys := by
  have h1 := h.ol.hl.low'
  have h2 := h.up
  refine ⟨⟨h.ol.hl.touch t (by omega), fun i hi => (h.ol.ps i hi).touch t (fun e => ?_), h.ol.ng, h.ol.ap⟩, h.lk, h.up, h.un⟩
  have h3 := (h.ol.ps i hi).lt e
  have h4 := h.un i hi _ e
  omega

theorem CpT.of {w : World} {B n g : Nat} {xs ys : List Ln} {pp : List (List (Int × ByteArray))} (h : Ol w B g n n ys pp) (l : Like n xs ys) : CpT w B w.heap.size n xs pp g ys :=
  ⟨h, l, h.hl.lt, fun i hi q e => ((h.ps i hi).lt e).2⟩

theorem good_like {l m : Ln} (e : core l = core m) {ps : List (Int × ByteArray)} (g : GoodC l.c ps) : GoodC m.c ps := by
  rw [like_put e]
  exact ⟨g.w_iss, g.w_una, g.w_nxt, g.w_mx, g.w_wsq, g.w_wak, g.w_oF, g.w_fsq, g.w_cR, g.w_tsq, g.hod, g.gd⟩

theorem word_like {l m : Ln} (e : core l = core m) (g : WordL l) : WordL m := by
  rw [like_put e]
  exact g

theorem good_bnd {c : Cn} {ps : List (Int × ByteArray)} (u : WfC c ps) (h : Bnd c ps) : GoodC c ps :=
  ⟨isWord_wf u.v_iss, isWord_wf u.v_una, isWord_wf u.v_nxt, isWord_wf u.v_mx, isWord_wf u.v_wsq, isWord_wf u.v_wak, isWord_wf u.v_oF, isWord_wf u.v_fsq, isWord_wf u.v_cR, isWord_wf u.v_tsq, by have := h.1; omega,
   ⟨isWord_wf u.v_iN, by have := h.2.1; omega, by have := bounds_i64 u.v_iR; unfold IsInt; omega, by have := h.2.2.1; omega, fun i hi => ⟨isWord_wf (u.parts i hi).1, by have := h.2.2.2 i hi; omega⟩⟩⟩

theorem word_wf {l : Ln} {ps : List (Int × ByteArray)} (u : WfL l ps) : WordL l := ⟨isWord_wf u.hh, isWord_wf u.th⟩

/-- What the laws' look at a table's size lets through. -/
structure GoodT (t : Tb) (xs : List Ln) (pp : List (List (Int × ByteArray))) : Prop where
  ln : t.ln ≤ 1048576
  pn : ∀ i, i < t.ln → (lAt xs i).c.pn ≤ 1048576
  gc : ∀ i, i < t.ln → GoodC (lAt xs i).c (qAt pp i)
  wd : ∀ i, i < t.ln → WordL (lAt xs i)

theorem goodT_of {w : World} {t : Tb} {xs : List Ln} {pp : List (List (Int × ByteArray))} (u : WfT w t xs pp) (h : (t.ln : Int) ≤ 1048576 ∧ ∀ i, i < t.ln → Bnd (lAt xs i).c (qAt pp i)) : GoodT t xs pp :=
  ⟨by omega, fun i hi => by have := (h.2 i hi).2.2.1; omega, fun i hi => good_bnd (u.wl i hi).wc (h.2 i hi), fun i hi => word_wf (u.wl i hi)⟩

theorem CpT.gc {w : World} {B M g : Nat} {t : Tb} {xs ys : List Ln} {pp : List (List (Int × ByteArray))} (h : CpT w B M t.ln xs pp g ys) (u : GoodT t xs pp) : ∀ i, i < t.ln → GoodC (lAt ys i).c (qAt pp i) := fun i hi => good_like (h.lk i hi) (u.gc i hi)

theorem CpT.wd {w : World} {B M g : Nat} {t : Tb} {xs ys : List Ln} {pp : List (List (Int × ByteArray))} (h : CpT w B M t.ln xs pp g ys) (u : GoodT t xs pp) : ∀ i, i < t.ln → WordL (lAt ys i) := fun i hi => word_like (h.lk i hi) (u.wd i hi)

theorem CpT.ok {w : World} {B M g : Nat} {t : Tb} {xs ys : List Ln} {pp : List (List (Int × ByteArray))} {q : Bool} (h : CpT w B M t.ln xs pp g ys) (hq : q = true ↔ TableOk t xs pp) : q = true ↔ TableOk (cpT t g) ys pp := by
  rw [hq]
  constructor
  · rintro ⟨a, b⟩
    exact ⟨⟨a.po, a.rm, a.ep, a.nw, a.ln⟩, (like_lines h.lk pp).1 b⟩
  · rintro ⟨a, b⟩
    exact ⟨⟨a.po, a.rm, a.ep, a.nw, a.ln⟩, (like_lines h.lk pp).2 b⟩

theorem toTb (t : Tb) (xs : List Ln) (pp : List (List (Int × ByteArray))) (g : GoodT t xs pp) (w : World) (R : Rl w t.la t.ln xs pp) :
    Calls Try.prog 7 #[.agg (tbCells t)] w fun e w' => ∃ g ys, e = .returned (.agg (tbCells (cpT t g))) ∧ CpT w' w.heap.size w'.heap.size t.ln xs pp g ys ∧ Since w w' := by
  refine (toTable t xs pp g.ln g.pn w R).mono ?_
  rintro e w' ⟨g, ys, rfl, h1, h2, s⟩
  exact ⟨g, ys, rfl, CpT.of h1 h2, s⟩

theorem eqTb (t : Tb) (xs ys zs : List Ln) (pp : List (List (Int × ByteArray))) (u : GoodT t xs pp) (B B' M M' g k : Nat) (w : World) (h : CpT w B M t.ln xs pp g ys) (h' : CpT w B' M' t.ln xs pp k zs) :
    Calls Try.prog 9 #[.agg (tbCells (cpT t g)), .agg (tbCells (cpT t k))] w fun e w' => e = .returned (.bool true) ∧ Since w w' := by
  refine eqTable (cpT t g) (some ⟨k, 0, none⟩) t.ln ys zs pp u.ln (fun i hi => (h.lk i hi).symm.trans (h'.lk i hi)) (fun i hi => ?_) w h.ol.reads h'.ol.reads
  have e := h.lk i hi
  have := u.pn i hi
  rw [like_put e]
  exact this
end Go.Proofs.Ytpkenhcglnognaa
