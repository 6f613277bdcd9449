/-
  Pure facts: what PutPacket, PutSeg and PutDatagram write is read back, field by field.
-/
import Derived.Test.YtigjppamjfnmcaaSegBack
import Derived.Test.YtigjppamjfnmcaaDgramLaw
import Derived.Test.YtigjppamjfnmcaaPutBack
import Derived.Test.YtigjppamjfnmcaaHopPkt
namespace Go.Proofs.Ytigjppamjfnmcaa
open Go.ChangeShapes Go.WideShapes Go.ChangeAt Go.RowKit
set_option linter.unusedVariables false
set_option maxRecDepth 10000

theorem dg_reads (sh sp dh dp id ttl sq ak fl wn ms : Int) (d : ByteArray) (hs : IsWord sh) (hd : IsWord dh) (hsq : IsWord sq) (hak : IsWord ak) (hok : segOk sp dp fl wn ms d = true) (hid : 0 ≤ id ∧ id ≤ 65535) (ht : 0 ≤ ttl ∧ ttl ≤ 255) :
    isDg (putOf sh dh id ttl 6 (putSeg sh dh sp dp sq ak fl wn ms d)) ∧ dgGood (putOf sh dh id ttl 6 (putSeg sh dh sp dp sq ak fl wn ms d)) = .tuple #[addrVal sh sp, addrVal dh dp, segVal sp dp sq ak fl wn ms d, .bool true] ∧
      byteAt (putOf sh dh id ttl 6 (putSeg sh dh sp dp sq ak fl wn ms d)) 8 = ttl ∧ hopText (putOf sh dh id ttl 6 (putSeg sh dh sp dp sq ak fl wn ms d)) = putOf sh dh id (ttl - 1) 6 (putSeg sh dh sp dp sq ak fl wn ms d) ∧ (putOf sh dh id ttl 6 (putSeg sh dh sp dp sq ak fl wn ms d)).size ≤ 580 := by
  obtain ⟨s1, s2, s3, s4, s5, s6⟩ := seg_reads sh dh sp dp sq ak fl wn ms d hsq hak hok
  generalize putSeg sh dh sp dp sq ak fl wn ms d = t at s1 s2 s3 s4 s5 s6 ⊢
  have hp : pktOk id ttl 6 t = true := by simp [pktOk, hid, ht]; omega
  obtain ⟨p1, p2, p3, p4, p5, p6, p7, p8⟩ := put_reads sh dh id ttl 6 t hs hd hp
  refine ⟨⟨p8, p6, ?_⟩, ?_, p5, ?_, by omega⟩
  · rw [p2, p3, p7]
    exact s6
  · rw [dgGood, p2, p3, p7, s3, s4, s5]
  · rw [hopText, p2, p3, p4, p5, p6, p7]
end Go.Proofs.Ytigjppamjfnmcaa
