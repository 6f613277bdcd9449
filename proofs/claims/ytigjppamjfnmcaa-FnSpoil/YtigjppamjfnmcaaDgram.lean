/-
  Addresses as values; contracts of impl's and spec's PutDatagram, at every argument.
-/
import Derived.Test.YtigjppamjfnmcaaM4
import Derived.Test.YtigjppamjfnmcaaSpecPutSeg
import Derived.Test.YtigjppamjfnmcaaSpecPutPkt
import Derived.Test.YtigjppamjfnmcaaShows
namespace Go.Proofs.Ytigjppamjfnmcaa
open Go.ChangeShapes Go.WideShapes Go.ChangeAt Go.RowKit
set_option linter.unusedVariables false
set_option maxRecDepth 10000

theorem kept2 {w w' : World} {c0 c1 : Value} {t : TypeId} (h : Since (w.alloc (.cells #[c0, c1] t)) w') :
    w'.cell? ⟨w.heap.size, 0, none⟩ = some c0 ∧ w'.cell? ⟨w.heap.size, 1, none⟩ = some c1 := by
  have k : ∀ i : Nat, w'.cell? ⟨w.heap.size, i, none⟩ = #[c0, c1][i]? := fun i => by
    rw [Below.cell h (p := ⟨w.heap.size, i, none⟩) (by simp)]
    exact World.cell?_alloc_mark w _ _ _ i
  exact ⟨k 0, k 1⟩

/-- The bytes of a datagram. -/
def putDgram (sh sp dh dp id sq ak fl wn ms : Int) (d : ByteArray) : ByteArray :=
  if (putSeg sh dh sp dp sq ak fl wn ms d).size = 0 then ⟨#[]⟩ else putOf sh dh id 64 6 (putSeg sh dh sp dp sq ak fl wn ms d)

theorem text_empty (t : ByteArray) (h : t.size = 0) : t = ⟨#[]⟩ := by
  cases t with
  | mk a =>
    have : a = #[] := Array.eq_empty_of_size_eq_zero h
    rw [this]

theorem text_full (t : ByteArray) (h : t.size ≠ 0) : (t.toList == ([] : List UInt8)) = false := by
  have h1 := texts_differ (t := t) (s := ⟨#[]⟩) (fun e => h (by rw [e]; rfl))
  rwa [show (⟨#[]⟩ : ByteArray).toList = [] by unfold ByteArray.toList ByteArray.toList.loop; rfl] at h1

set_option maxHeartbeats 2000000 in
theorem specPutDg (sh sp dh dp id : Int) (fr to sq ak fl wn ms : Int) (d : ByteArray) (hs : IsWord sh) (hd : IsWord dh) (hsq : IsWord sq) (hak : IsWord ak) (hf : IsInt fl) (w : World) :
    Calls Try.prog 6 #[addrVal sh sp, addrVal dh dp, .int .i64 id, segVal fr to sq ak fl wn ms d] w fun e w' => e = .returned (.string (putDgram sh sp dh dp id sq ak fl wn ms d)) ∧ Since w w' := by
  have hput := fun wx => specPutSeg sh dh sp dp sq ak fl wn ms d hs hd hsq hak hf wx
  unfold putDgram
  generalize putSeg sh dh sp dp sq ak fl wn ms d = t at hput ⊢
  have hpk := fun wx => specPutPacket sh dh id 64 6 t hs hd wx
  unfold segVal addrVal at *
  unfold pktVal at hpk
  by_cases h0 : t.size = 0
  · rw [if_pos h0]
    obtain rfl := text_empty t h0
    clear hpk h0
    go_enter Try.func6, Try.ntmps6
    go_wp2_with (go_at_call 17; refine (hput _).mono ?_; rintro _ z ⟨rfl, g⟩)
    go_ret
    exact ⟨rfl, (((((Since.refl w).alloc _).alloc _).alloc _)).trans g⟩
  · rw [if_neg h0]
    have ht := text_full t h0
    generalize putOf sh dh id 64 6 t = p at hpk ⊢
    clear h0
    go_enter Try.func6, Try.ntmps6
    go_wp2_with (first | (go_at_call 17; refine (hput _).mono ?_; rintro _ z ⟨rfl, g⟩; obtain ⟨A0, A1⟩ := kept2 (w := w) (Since.trans (((Since.refl _).alloc _).alloc _) g); obtain ⟨B0, B1⟩ := kept2 (w := w.alloc (.cells #[.int .u32 sh, .int .i64 sp] 26)) (Since.trans ((Since.refl _).alloc _) g); rw [World.size_alloc] at B0 B1) | (go_at_call 18; refine (hpk _).mono ?_; rintro _ z2 ⟨rfl, g2⟩))
    go_ret
    exact ⟨rfl, ((((((Since.refl w).alloc _).alloc _).alloc _)).trans g).trans g2⟩

set_option maxHeartbeats 2000000 in
theorem implPutDg (sh sp dh dp id : Int) (fr to sq ak fl wn ms : Int) (d : ByteArray) (hs : IsWord sh) (hd : IsWord dh) (hsq : IsWord sq) (hak : IsWord ak) (hf : IsInt fl) (w : World) :
    Calls Try.prog 7 #[addrVal sh sp, addrVal dh dp, .int .i64 id, segVal fr to sq ak fl wn ms d] w fun e w' => e = .returned (.string (putDgram sh sp dh dp id sq ak fl wn ms d)) ∧ Since w w' := by
  have hput := fun wx => implPutSeg sh dh sp dp sq ak fl wn ms d hs hd hsq hak hf wx
  unfold putDgram
  generalize putSeg sh dh sp dp sq ak fl wn ms d = t at hput ⊢
  have hpk := fun wx => implPutPacket sh dh id 64 6 t hs hd wx
  unfold segVal addrVal at *
  unfold pktVal at hpk
  by_cases h0 : t.size = 0
  · rw [if_pos h0]
    obtain rfl := text_empty t h0
    clear hpk h0
    go_enter Try.func7, Try.ntmps7
    go_wp2
    go_region
    all_goals go_wp2_with (go_at_call 19; refine (hput _).mono ?_; rintro _ z ⟨rfl, g⟩; replace g := Since.trans ((Since.refl _).drew) g)
    all_goals go_ret
    all_goals exact ⟨rfl, (((((Since.refl w).alloc _).alloc _).alloc _)).trans g⟩
  · rw [if_neg h0]
    have ht := text_full t h0
    generalize putOf sh dh id 64 6 t = p at hpk ⊢
    clear h0
    go_enter Try.func7, Try.ntmps7
    go_wp2
    go_region
    all_goals go_wp2_with (first | (go_at_call 19; refine (hput _).mono ?_; rintro _ z ⟨rfl, g⟩; replace g := Since.trans ((Since.refl _).drew) g; obtain ⟨A0, A1⟩ := kept2 (w := w) (Since.trans (((Since.refl _).alloc _).alloc _) g); obtain ⟨B0, B1⟩ := kept2 (w := w.alloc (.cells #[.int .u32 sh, .int .i64 sp] 26)) (Since.trans ((Since.refl _).alloc _) g); rw [World.size_alloc] at B0 B1) | (go_at_call 20; refine (hpk _).mono ?_; rintro _ z2 ⟨rfl, g2⟩))
    all_goals go_ret
    all_goals exact ⟨rfl, ((((((Since.refl w).alloc _).alloc _).alloc _)).trans g).trans g2⟩

end Go.Proofs.Ytigjppamjfnmcaa
