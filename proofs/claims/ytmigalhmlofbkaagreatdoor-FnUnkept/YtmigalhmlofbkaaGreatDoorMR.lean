/- A part of the proof. -/
import Derived.Test.YtmigalhmlofbkaaGreatDoorByt
set_option linter.unusedVariables false
set_option maxRecDepth 10000
namespace Go.Proofs.YtmigalhmlofbkaaGreatDoor
open Go.ChangeShapes Go.WideShapes Go.ChangeAt Go.RowKit Go.Deep
structure Ring (w:World) (r c room first many:Nat) (f:Nat→Int):Prop where
 box:Blk r w #[.slice (some ⟨c,0,none⟩) room room,.int .i64 first,.int .i64 many]
 cells:Byt w c room f
 ne:r≠c
 pos:0<room
 small:room≤4096
 fst:first<room
 mny:many≤room
theorem Ring.since {w w':World} {r c room first many:Nat} {f:Nat→Int} (h:Ring w r c room first many f) (k:Since w w'):Ring w' r c room first many f:=⟨h.box.since k,h.cells.since k,h.ne,h.pos,h.small,h.fst,h.mny⟩
theorem Ring.touch {w w':World} {r c room first many g:Nat} {f:Nat→Int} (h:Ring w r c room first many f) (k:Touch g w w') (hr:r≠g) (hc:c≠g):Ring w' r c room first many f:=⟨h.box.touch k hr,h.cells.touch k hc,h.ne,h.pos,h.small,h.fst,h.mny⟩
theorem stretches (r c room first many:Nat) (f:Nat→Int) (i n at' k:Nat) (hi:i≤room) (hn:n≤room) (ha:(first+i) % room=at') (hk1:at'+k≤room) (hk2:k≤n) (hk3:at'+k=room∨k=n) (w:World) (R:Ring w r c room first many f) :
  Calls Tryz.prog 114 #[.pointer (some ⟨r,0,none⟩),.int .i64 i,.int .i64 n] w fun e w'=>e=.returned (.tuple #[.slice (some ⟨c,at',none⟩) k (room - at'),.slice (some ⟨c,0,none⟩) (n - k) room])∧Since w w':=by
 have b0:=R.box.cell 0
 have b1:=R.box.cell 1
 have hp:=R.pos
 have hs:=R.small
 have hf:=R.fst
 simp at b0 b1
 have hat:at'<room:=by rw [← ha];exact Nat.mod_lt _ hp
 have hmod:((first:Int)+(i:Int)) % (room:Int)=(at':Int):=by rw [← ha];simp
 have hmod':((first:Int)+(i:Int)).tmod (room:Int)=(at':Int):=by rw [Int.tmod_eq_emod_of_nonneg (by omega)];exact hmod
 have hr0:(room:Int)≠0:=by omega
 clear R ha
 have hif:(if (room:Int)<(at':Int)+(n:Int) then (room:Int) else (at':Int)+(n:Int))=((at'+k:Nat):Int):=by split<;>omega
 have hsl:(((at'+k:Nat):Int)).toNat - at'=k:=by omega
 clear hk3
 have hnk:(n:Int) - (k:Int)=((n - k:Nat):Int):=by omega
 go_enter Tryz.func114,Tryz.ntmps114
 go_wp2
 go_quiet (fail)
 go_wp2
 go_region
 clear hif hsl hmod hmod'
 rw [show at'+k - at'=k by omega]
 go_wp2
 go_quiet (fail)
 go_wp2
 refine bodyPost_ret (v:=.tuple #[.slice (some ⟨c,at',none⟩) k (room - at'),.slice (some ⟨c,0,none⟩) (n - k) room]) ?_ rfl ⟨rfl,?_⟩
 ·simp [results,go_sem]
 ·repeat (first|exact Since.refl _|refine since_drews ?_ _)
theorem ring_mod (first i room:Nat) (hf:first<room) (hi:i≤room):(first+i) % room=if first+i<room then first+i else first+i - room:=by
 split
 ·exact Nat.mod_eq_of_lt ‹_›
 ·rw [Nat.mod_eq_sub_mod (by omega)]
  exact Nat.mod_eq_of_lt (by omega)
theorem over_in {f g:Nat→Int} {off k i:Nat} (h1:off≤i) (h2:i<off+k):over f off k g i=g (i - off):=if_pos ⟨h1,h2⟩
theorem over_out {f g:Nat→Int} {off k i:Nat} (h:i<off∨off+k≤i):over f off k g i=f i:=if_neg (by omega)
theorem ring_put_old (f g:Nat→Int) (room first many n k at' i:Nat) (hf:first<room) (hmy:many≤room) (hn2:many+n≤room) (hi:i<many) (ha:(first+many) % room=at') (hk1:at'+k≤room) (hk2:k≤n) (hk3:at'+k=room∨k=n) :
  over (over f at' k g) 0 (n - k) (fun j=>g (k+j)) ((first+i) % room)=f ((first+i) % room):=by
 rw [ring_mod first many room hf hmy] at ha
 have hx:=ring_mod first i room hf (by omega)
 generalize (first+i) % room=x at hx ⊢
 by_cases h1:first+many<room
 ·rw [if_pos h1] at ha
  rw [if_pos (show first+i<room by omega)] at hx
  rw [over_out (by omega),over_out (by omega)]
 ·rw [if_neg h1] at ha
  by_cases h2:first+i<room
  ·rw [if_pos h2] at hx
   rw [over_out (by omega),over_out (by omega)]
  ·rw [if_neg h2] at hx
   rw [over_out (by omega),over_out (by omega)]
theorem ring_put_new (f g:Nat→Int) (room first many n k at' j:Nat) (hf:first<room) (hmy:many≤room) (hn2:many+n≤room) (hj:j<n) (ha:(first+many) % room=at') (hk1:at'+k≤room) (hk2:k≤n) (hk3:at'+k=room∨k=n) :
  over (over f at' k g) 0 (n - k) (fun j=>g (k+j)) ((first+(many+j)) % room)=g j:=by
 rw [ring_mod first many room hf hmy] at ha
 have hx:=ring_mod first (many+j) room hf (by omega)
 generalize (first+(many+j)) % room=x at hx ⊢
 by_cases h1:first+many<room
 ·rw [if_pos h1] at ha
  by_cases h2:first+(many+j)<room
  ·rw [if_pos h2] at hx
   rw [over_out (by omega),over_in (by omega) (by omega)]
   congr 1
   omega
  ·rw [if_neg h2] at hx
   rw [over_in (by omega) (by omega)]
   show g (k+(x - 0))=g j
   congr 1
   omega
 ·rw [if_neg h1] at ha
  rw [if_neg (by omega)] at hx
  rw [over_out (by omega),over_in (by omega) (by omega)]
  congr 1
  omega
theorem put (r c room first many:Nat) (f g:Nat→Int) (b m cap n:Nat) (hn1:n≤m) (hn2:many+n≤room) (hn3:n=m∨many+n=room) (hcap:m≤cap) (hm:m≤1048576) (w:World) (R:Ring w r c room first many f)
  (hsrc:∀ j,j<m→w.cell? ⟨b,j,none⟩=some (.int .u8 (g j))) (hb:b<w.heap.size) (hbc:b≠c) (B:Nat) (hB1:B≤r) (hB2:B≤c) (hB3:B≤w.heap.size) :
  Calls Tryz.prog 79 #[.pointer (some ⟨r,0,none⟩),.slice (some ⟨b,0,none⟩) m cap] w fun e w'=>e=.returned (.int .i64 n)∧Below B w w'∧∃ f',Ring w' r c room first (many+n) f'∧(∀ i,i<many→f' ((first+i) % room)=f ((first+i) % room))∧∀ j,j<n→f' ((first+(many+j)) % room)=g j:=by
 have b0:=R.box.cell 0
 have b2:=R.box.cell 2
 have hp:=R.pos
 have hs:=R.small
 have hf:=R.fst
 have hmy:=R.mny
 simp at b0 b2
 obtain ⟨at',ha⟩:∃ at',(first+many) % room=at':=⟨_,rfl⟩
 have hat:at'<room:=by rw [← ha];exact Nat.mod_lt _ hp
 obtain ⟨k,hk1,hk2,hk3⟩:∃ k,at'+k≤room∧k≤n∧(at'+k=room∨k=n):=⟨min (room - at') n,by omega,by omega,by omega⟩
 have hif:(if (room:Int) - (many:Int)<(m:Int) then (room:Int) - (many:Int) else (m:Int))=(n:Int):=by split<;>omega
 have hst:=fun wx Rx=>stretches r c room first many f many n at' k hmy (by omega) ha hk1 hk2 hk3 wx Rx
 have S0:=(Since.refl w).drew
 replace ha:Hid _:=ha
 replace hk3:Hid _:=hk3
 replace hn3:Hid _:=hn3
 replace hsrc:Hid _:=hsrc
 have hR:=hst _ (R.since S0)
 clear hst
 go_enter Tryz.func79,Tryz.ntmps79
 go_wp2
 go_region
 clear hif
 go_wp2_with (fail)
 refine hR.mono ?_
 clear hR
 rintro _ w1 ⟨rfl,g1⟩
 have R1:=R.since (S0.trans g1)
 have c2:=R1.box.cell 2
 simp at c2
 have f2:=R1.box.fz 2
 have addb:∀ j,(⟨b,0,none⟩:Addr).add j=⟨b,j,none⟩:=fun j=>by unfold Addr.add;split<;>simp_all
 have hx1:∀ j,j<k→w1.cell? ((⟨b,0,none⟩:Addr).add j)=some (.int .u8 (g j)):=fun j hj=>by
  rw [addb]
  exact (Below.cell (S0.trans g1) (p:=⟨b,j,none⟩) hb).trans (hsrc.out j (by omega))
 have hm1:k=Nat.min m k:=(Nat.min_eq_right (by omega)).symm
 clear b0 b2
 replace hx1:Hid _:=hx1
 replace hm1:Hid _:=hm1
 go_wp2_with (refine copy_byt rfl (.tmp 33) (.tmp 34) rfl R1.cells (some ⟨c,at',none⟩) (some ⟨b,0,none⟩) k (room - at') m cap k rfl rfl hm1.out (fun _=>⟨rfl,_,rfl,hx1.out⟩) hk1 ?_)
 intro w2 C2 t2
 have B2:=R1.box.touch t2 R1.ne
 have d2:=B2.cell 2
 simp at d2
 have e2:=B2.fz 2
 have hx2:∀ j,j<n - k→w2.cell? ⟨b,k+j,none⟩=some (.int .u8 (g (k+j))):=fun j hj=>by
  exact (t2.cell (p:=⟨b,k+j,none⟩) hbc (Nat.lt_of_lt_of_le hb (S0.trans g1).le)).trans ((Below.cell (S0.trans g1) (p:=⟨b,k+j,none⟩) hb).trans (hsrc.out (k+j) (by omega)))
 have hm2:n - k=Nat.min (m - k) (n - k):=(Nat.min_eq_right (by omega)).symm
 replace hx2:Hid _:=hx2
 replace hm2:Hid _:=hm2
 clear c2 f2
 have fin:∀ w3,Byt w3 c room (over (over f at' k g) 0 (n - k) (fun j=>g (k+j)))→Touch c w2 w3→Below B w (w3.setCell ⟨r,2,none⟩ (.int .i64 ((many:Int)+(n:Int))))∧∃ f',Ring (w3.setCell ⟨r,2,none⟩ (.int .i64 ((many:Int)+(n:Int)))) r c room first (many+n) f'∧(∀ i,i<many→f' ((first+i) % room)=f ((first+i) % room))∧∀ j,j<n→f' ((first+(many+j)) % room)=g j:=by
  intro w3 C3 t3
  have B3:=(B2.touch t3 R1.ne).put 2 (.int .i64 ((many+n:Nat):Int)) (by simp)
  have C4:=C3.touch ((Touch.refl r w3).put 2 (.int .i64 ((many:Int)+(n:Int)))) (Ne.symm R1.ne)
  refine ⟨?_,_,⟨by simpa using B3,C4,R1.ne,hp,hs,hf,hn2⟩,fun i hi=>?_,fun j hj=>?_⟩
  ·exact (Touch.below t3 (Touch.below t2 (Below.mono (S0.trans g1) hB3) hB2 (Nat.le_trans hB3 (S0.trans g1).le)) hB2 (Nat.le_trans hB3 (Nat.le_trans (S0.trans g1).le t2.size))).setCell (p:=⟨r,2,none⟩) hB1 _
  ·exact ring_put_old f g room first many n k at' i hf hmy hn2 hi ha.out hk1 hk2 hk3.out
  ·exact ring_put_new f g room first many n k at' j hf hmy hn2 hj ha.out hk1 hk2 hk3.out
 replace fin:Hid _:=fin
 have hmn:IntKind.i64.wrap ((many:Int)+(n:Int))=(many:Int)+(n:Int):=by rw [IntWalk.i64_left];exact IntWalk.wrap64_in _ ⟨by omega,by omega⟩
 go_wp2_with (refine copy_byt rfl (.tmp 31) (.tmp 36) rfl C2 (off:=0) (g:=fun j=>g (k+j)) (some ⟨c,0,none⟩) (if cap=k then some ⟨b,0,none⟩ else some ⟨b,k,none⟩) (n - k) room (m - k) (cap - k) (n - k) rfl rfl hm2.out (fun h=>⟨rfl,⟨b,k,none⟩,if_neg (by omega),fun j hj=>by rw [show (⟨b,k,none⟩:Addr).add j=⟨b,k+j,none⟩ by unfold Addr.add;split<;>simp_all];exact hx2.out j hj⟩) (by omega) ?_)
 all_goals
  intro w3 C3 t3
  have B3:=B2.touch t3 R1.ne
  have q2:=B3.cell 2
  simp at q2
  have p2:=B3.fz 2
  obtain ⟨F1,F2⟩:=fin.out w3 C3 t3
  replace F1:Hid _:=F1
  replace F2:Hid _:=F2
  clear d2 e2 C2
  go_wp2
  go_ret
  exact ⟨rfl,F1.out,F2.out⟩
theorem Byt.grown {w w':World} {c n:Nat} {f:Nat→Int} {row:Option Nat} (h:Byt w c n f) (k:w.grownBy w' row) (hne:some c≠row):Byt w' c n f:=h.block (k.block c h.lt hne)
theorem ring_taken (f:Nat→Int) (room first i n k at' j:Nat) (hf:first<room) (hi:i+n≤room) (hj:j<n) (ha:(first+i) % room=at') (hk1:at'+k≤room) (hk2:k≤n) (hk3:at'+k=room∨k=n) :
  (if j<k then f (at'+j) else f (j - k))=f ((first+(i+j)) % room):=by
 rw [ring_mod first i room hf (by omega)] at ha
 have hx:=ring_mod first (i+j) room hf (by omega)
 generalize (first+(i+j)) % room=x at hx ⊢
 by_cases h1:first+i<room
 ·rw [if_pos h1] at ha
  by_cases h2:j<k
  ·rw [if_pos h2]
   rw [if_pos (by omega)] at hx
   congr 1
   omega
  ·rw [if_neg h2]
   rw [if_neg (by omega)] at hx
   congr 1
   omega
 ·rw [if_neg h1] at ha
  rw [if_neg (by omega)] at hx
  rw [if_pos (by omega)]
  congr 1
  omega
theorem taken (r c room first many:Nat) (f:Nat→Int) (i n n':Nat) (hi:i≤many) (hn1:n'≤n) (hn2:i+n'≤many) (hn3:n'=n∨i+n'=many) (hn:n≤4096) (w:World) (R:Ring w r c room first many f) :
  Calls Tryz.prog 115 #[.pointer (some ⟨r,0,none⟩),.int .i64 i,.int .i64 n] w fun e w'=>∃ b cap,e=.returned (.slice (some ⟨b,0,none⟩) n' cap)∧(∀ j,j<n'→w'.cell? ⟨b,j,none⟩=some (.int .u8 (f ((first+(i+j)) % room))))∧w.heap.size≤b∧Since w w':=by
 have b2:=R.box.cell 2
 have hp:=R.pos
 have hs:=R.small
 have hf:=R.fst
 have hmy:=R.mny
 simp at b2
 obtain ⟨ii,hii,hz0,hz1,hz2⟩:=info_parts info_B
 obtain ⟨at',ha⟩:∃ at',(first+i) % room=at':=⟨_,rfl⟩
 have hat:at'<room:=by rw [← ha];exact Nat.mod_lt _ hp
 obtain ⟨k,hk1,hk2,hk3⟩:∃ k,at'+k≤room∧k≤n'∧(at'+k=room∨k=n'):=⟨min (room - at') n',by omega,by omega,by omega⟩
 have hif:(if (many:Int) - (i:Int)<(n:Int) then (many:Int) - (i:Int) else (n:Int))=(n':Int):=by split<;>omega
 have hR:=stretches r c room first many f i n' at' k (by omega) (by omega) ha hk1 hk2 hk3 w R
 have hfin:∀ j,j<n'→(if j<k then f (at'+j) else f (j - k))=f ((first+(i+j)) % room):=fun j hj=>ring_taken f room first i n' k at' j hf (by omega) hj ha hk1 hk2 hk3
 have hc:=R.cells.lt
 clear ha hk3
 replace hn3:Hid _:=hn3
 replace hfin:Hid _:=hfin
 go_enter Tryz.func115,Tryz.ntmps115
 go_wp2_with (fail)
 refine hR.mono ?_
 clear hR hif
 rintro _ w1 ⟨rfl,g1⟩
 have R1:=R.since g1
 have hsz:=g1.le
 clear b2
 go_wp2_with (refine wpList_make_own _ rfl (.const (.int .i64 0)) (.tmp 24) 22 rfl w.heap.size 5 ii (.int .u8 0) 1 Tryz.underlying22 hii hz0 hz1 .i64 .i64 _ n' rfl rfl rfl (by rw [hz2];omega) (by unfold maxLen;omega) hsz ?_)
 intro w2 hown hg2
 have C2:=R1.cells.grown hg2 (by simp)
 have T2:OwnB w2 w.heap.size (.slice (some ⟨w1.heap.size,0,none⟩) 0 n') 0 f:=hown
 have S2:Since w w2:=Below.grown g1 hg2 hsz (by simp)
 have hx1:∀ j,j<k→w2.cell? ((⟨c,at',none⟩:Addr).add j)=some (.int .u8 (f (at'+j))):=fun j hj=>by
  rw [show (⟨c,at',none⟩:Addr).add j=⟨c,at'+j,none⟩ by unfold Addr.add;split<;>simp_all]
  exact C2.cell (at'+j) (by omega)
 replace hx1:Hid _:=hx1
 clear hown
 go_wp2_with (refine app_byt rfl (.tmp 25) (.tmp 26) rfl rfl T2 rfl (g:=fun j=>f (at'+j)) hx1.out (by omega) S2.le ?_)
 intro v3 w3 T3 hg3 hnil
 have hv3:v3≠.slice none 0 0:=hnil
 obtain ⟨g3,cap3,rfl,hB3,hlt3,hc3⟩:=T3.form hv3
 have S3:Since w w3:=Below.grown S2 hg3 S2.le (by simp [Value.ownBlock];omega)
 have C3:=C2.grown hg3 (by simp [Value.ownBlock];omega)
 have hx2:∀ j,j<n' - k→w3.cell? ((⟨c,0,none⟩:Addr).add j)=some (.int .u8 (f j)):=fun j hj=>by
  rw [show (⟨c,0,none⟩:Addr).add j=⟨c,j,none⟩ by unfold Addr.add;split<;>simp_all]
  exact C3.cell j (by omega)
 replace hx2:Hid _:=hx2
 clear hx1 hc3
 go_wp2_with (refine app_byt rfl (.tmp 27) (.tmp 28) rfl rfl T3 rfl (g:=fun j=>f j) hx2.out (by omega) S3.le ?_)
 intro v4 w4 T4 hg4 hnil4
 have hv4:v4≠.slice none 0 0:=hnil4
 obtain ⟨g4,cap4,rfl,hB4,hlt4,hc4⟩:=T4.form hv4
 have S4:Since w w4:=Below.grown S3 hg4 S3.le (by simp [Value.ownBlock];omega)
 have hl:0+k+(n' - k)=n':=by omega
 replace hc4:Hid _:=hc4
 go_wp2
 go_ret
 refine ⟨g4,cap4,rfl,fun j hj=>?_,hB4,S4⟩
 rw [hc4.out j (by omega),hfin.out j hj]
theorem ringAll (r c room first many:Nat) (f:Nat→Int) (w:World) (R:Ring w r c room first many f) :
  Calls Tryz.prog 80 #[.pointer (some ⟨r,0,none⟩)] w fun e w'=>∃ b cap,e=.returned (.slice (some ⟨b,0,none⟩) many cap)∧(∀ j,j<many→w'.cell? ⟨b,j,none⟩=some (.int .u8 (f ((first+j) % room))))∧w.heap.size≤b∧Since w w':=by
 have b2:=R.box.cell 2
 simp at b2
 have ht:=taken r c room first many f 0 many many (by omega) (by omega) (by omega) (.inl rfl) (Nat.le_trans R.mny R.small) w R
 simp only [Nat.zero_add] at ht
 go_enter Tryz.func80,Tryz.ntmps80
 go_wp2_with (fail)
 refine ht.mono ?_
 rintro _ w1 ⟨b,cap,rfl,hc,hlb,g1⟩
 replace hc:Hid _:=hc
 go_wp2
 go_ret
 exact ⟨b,cap,rfl,hc.out,hlb,g1⟩
theorem ringDrop (r c room first many:Nat) (f:Nat→Int) (n:Nat) (hn:n≤many) (w:World) (R:Ring w r c room first many f) (B:Nat) (hB:B≤r) :
  Calls Tryz.prog 160 #[.pointer (some ⟨r,0,none⟩),.int .i64 n] w fun e w'=>e=.returned (.tuple #[])∧Below B w w'∧Ring w' r c room ((first+n) % room) (many - n) f:=by
 have b0:=R.box.cell 0
 have b1:=R.box.cell 1
 have b2:=R.box.cell 2
 have hp:=R.pos
 have hs:=R.small
 have hf:=R.fst
 have hmy:=R.mny
 simp at b0 b1 b2
 have z1:=R.box.fz 1
 have z2:=R.box.fz 2
 have hmod:((first:Int)+(n:Int)).tmod (room:Int)=((first+n) % room:Nat):=by rw [Int.tmod_eq_emod_of_nonneg (by omega)];simp
 have hlt:(first+n) % room<room:=Nat.mod_lt _ hp
 have hr0:(room:Int)≠0:=by omega
 obtain ⟨q,hq⟩:∃ q,(first+n) % room=q:=⟨_,rfl⟩
 rw [hq] at hmod hlt ⊢
 clear hq
 have B1:=((R.box.put 1 (.int .i64 q) (by simp)).put 2 (.int .i64 ((many:Int) - (n:Int))) (by simp))
 have C1:=(R.cells.touch ((Touch.refl r w).put 1 (.int .i64 q)) (Ne.symm R.ne)).touch ((Touch.refl r _).put 2 (.int .i64 ((many:Int) - (n:Int)))) (Ne.symm R.ne)
 have hW:Below B w ((w.setCell ⟨r,1,none⟩ (.int .i64 q)).setCell ⟨r,2,none⟩ (.int .i64 ((many:Int) - (n:Int)))):=((Below.refl B w).setCell (p:=⟨r,1,none⟩) hB _).setCell (p:=⟨r,2,none⟩) hB _
 have hsub:(many:Int) - (n:Int)=((many - n:Nat):Int):=by omega
 go_enter Tryz.func160,Tryz.ntmps160
 go_wp2
 go_region
 go_wp2
 refine bodyPost_end (v:=.tuple #[]) ?_ rfl ⟨rfl,?_,?_⟩
 ·simp [results,go_sem]
 ·rw [← hsub]
  exact hW.drew
 ·rw [← hsub]
  refine Ring.since ?_ ((Since.refl _).drew)
  exact ⟨by simpa [hsub] using B1,C1,R.ne,hp,hs,hlt,by omega⟩
theorem bytesText (s:ByteArray) (w:World):∃ cap w1,(convert 9 22 (.string s)).run Tryz.prog w=.ok (.slice (some ⟨w.heap.size,0,none⟩) s.size cap) w1∧s.size≤cap∧Since w w1∧w1.heap.size=w.heap.size+1∧∀ i,i<s.size→w1.cell? ⟨w.heap.size,i,none⟩=some (.int .u8 (byteAt s i)):=by
 refine ⟨_,_,run_bytes_of_string w 9 22 5 s Tryz.underlying9 Tryz.underlying22 Tryz.underlying5,grownCap_ge _ _ _ _,?_,?_,?_⟩
 ·exact ((Since.refl w).drew).alloc _
 ·exact (World.size_alloc _ _)
 ·intro i hi
  refine (World.cell?_alloc_mark w.drew _ _ _ i).trans ?_
  rw [bytesRow_at s _ i hi,byteAt_in s i hi]
  rfl
theorem ringOf (fi:Int) (d:ByteArray) (ro:Nat) (hf:IsWord fi) (h1':1≤ro) (h2':ro≤4096) (hd:d.size≤ro) (w:World) :
  Calls Tryz.prog 78 #[outVal fi d ro] w fun e w'=>∃ r c f first,e=.returned (.pointer (some ⟨r,0,none⟩))∧w.heap.size≤r∧w.heap.size≤c∧Ring w' r c ro first d.size f∧(∀ j,j<d.size→f ((first+j) % ro)=byteAt d j)∧Since w w':=by
 obtain ⟨hf0,hf1⟩:=hf
 unfold outVal
 obtain ⟨u,rfl⟩:=Int.eq_ofNat_of_zero_le hf0
 have hmod:((u:Nat):Int).tmod (ro:Int)=((u % ro:Nat):Int):=by rw [Int.tmod_eq_emod_of_nonneg (by omega)];simp
 have hlt:u % ro<ro:=Nat.mod_lt _ (by omega)
 generalize u % ro=q at hmod hlt
 have hr0:(ro:Int)≠0:=by omega
 have hu:IntKind.i64.wrap (u:Int)=(u:Int):=by rw [IntWalk.i64_left];exact IntWalk.wrap64_in _ ⟨by omega,by omega⟩
 have K:∀ wx,Since (w.alloc (.cells #[.int .u32 u,.string d,.int .i64 ro] 30)) wx→wx.cell? ⟨w.heap.size,0,none⟩=some (.int .u32 u)∧wx.cell? ⟨w.heap.size,1,none⟩=some (.string d)∧wx.cell? ⟨w.heap.size,2,none⟩=some (.int .i64 ro):=fun wx h=>by
  have k:=(Blk.new w #[.int .u32 u,.string d,.int .i64 ro] 30).since h
  exact ⟨by simpa using k.cell 0,by simpa using k.cell 1,by simpa using k.cell 2⟩
 have G:Since w (w.alloc (.cells #[.int .u32 u,.string d,.int .i64 ro] 30)):=(Since.refl _).alloc _
 have K0:=K
 clear K
 go_enter Tryz.func78,Tryz.ntmps78
 go_wp2
 obtain ⟨wb,hwb⟩:∃ wb,w.alloc (.cells #[.int .u32 u,.string d,.int .i64 ro] 30)=wb:=⟨_,rfl⟩
 rw [hwb] at K0 G ⊢
 clear hwb
 refine wp_region_each (wb:=wb) (fun i x v=>match i with
   | 0=>v=.pointer (some ⟨w.heap.size,2,none⟩)
   | 1=>v=.int .i64 ro
   | 2=>∃ c,v=.slice (some ⟨c,0,none⟩) ro ro∧Byt x c ro (fun _=>0)∧w.heap.size≤c
   | 3=>v=.pointer (some ⟨w.heap.size,0,none⟩)
   | 4=>v=.int .u32 u
   | 5=>v=.int .i64 u
   | 6=>v=.pointer (some ⟨w.heap.size,2,none⟩)
   | 7=>v=.int .i64 ro
   | 8=>v=.int .i64 q
   | 9=>∃ c,v=.agg #[.slice (some ⟨c,0,none⟩) ro ro,.int .i64 q,.int .i64 0]∧Byt x c ro (fun _=>0)∧w.heap.size≤c
   | 10=>∃ r c,v=.pointer (some ⟨r,0,none⟩)∧Blk r x #[.slice (some ⟨c,0,none⟩) ro ro,.int .i64 q,.int .i64 0]∧Byt x c ro (fun _=>0)∧w.heap.size≤r∧w.heap.size≤c∧r≠c
   | 11=>∃ r c,v=.pointer (some ⟨r,0,none⟩)∧Blk r x #[.slice (some ⟨c,0,none⟩) ro ro,.int .i64 q,.int .i64 0]∧Byt x c ro (fun _=>0)∧w.heap.size≤r∧w.heap.size≤c∧r≠c
   | _=>True) (fun v=>{tmps:=#[Value.agg #[Value.int IntKind.u32 (u:Int),Value.string d,Value.int IntKind.i64 (ro:Int)],Value.pointer (some ⟨w.heap.size,0,none⟩),Value.pointer none,v 11,v 0,v 1,v 2,v 3,v 4,v 5,v 6,v 7,v 8,v 9,v 10,undef,undef,undef,undef,undef,undef],defers:=[]}) (by kernel_rfl) (by kernel_rfl) (Since.refl _) ?_ (fun _=>by kernel_rfl) ?_ ?_
 case refine_1=>
  intro j x x' v h1 h2
  match j,h2 with
  | 2,h2=>
   obtain ⟨c,e,T,hc⟩:=h2
   exact ⟨c,e,T.since h1,hc⟩
  | 9,h2=>
   obtain ⟨c,e,T,hc⟩:=h2
   exact ⟨c,e,T.since h1,hc⟩
  | 10,h2=>
   obtain ⟨r,c,e,k1,T,hx⟩:=h2
   exact ⟨r,c,e,k1.since h1,T.since h1,hx⟩
  | 11,h2=>
   obtain ⟨r,c,e,k1,T,hx⟩:=h2
   exact ⟨r,c,e,k1.since h1,T.since h1,hx⟩
  | 0,h2|1,h2|3,h2|4,h2|5,h2|6,h2|7,h2|8,h2=>exact h2
  | n+12,_=>trivial
 case refine_2=>
  repeat (first|exact eachDoes_nil|refine eachDoes_cons ?_ ?_)
  all_goals intro vals x hx hv
  all_goals simp [Region.binds] at hv
  ·obtain ⟨r,e,hr⟩:=hv.1
   simp [does,doesUpon,go_sem,e,Since.refl]
   exact hr
  ·obtain ⟨c,e,T,hc⟩:=hv
   simp [does,doesUpon,go_sem,e]
   refine ⟨(Since.refl _).alloc _,c,?_,T.since ((Since.refl _).alloc _),?_,hc,?_⟩
   ·exact Blk.new x _ _
   ·exact Nat.le_trans G.le hx.le
   ·have:=T.lt
    omega
  ·obtain ⟨⟨c,e,T,hc⟩,h8⟩:=hv
   simp [does,doesUpon,go_sem,e,h8,Since.refl]
   exact ⟨T,hc⟩
  ·obtain ⟨h5,h7⟩:=hv
   simp [does,doesUpon,go_sem,h5,h7,Since.refl,hmod,show ro≠0 by omega]
  ·obtain ⟨k0,k1,k2⟩:=K0 x hx
   simp [does,doesUpon,go_sem,hv,k2,Since.refl]
  ·simp [does,doesUpon,go_sem,Since.refl]
  ·simp [does,doesUpon,go_sem,hv,Since.refl,hu]
  ·obtain ⟨k0,k1,k2⟩:=K0 x hx
   simp [does,doesUpon,go_sem,hv,k0,Since.refl]
  ·simp [does,doesUpon,go_sem,Since.refl]
  ·obtain ⟨ii,hi,hz0,hz1,hz2⟩:=info_parts info_B
   obtain ⟨w',hrun,r1,r2⟩:=run_make_full (P:=Tryz.prog) x x.heap.size 22 5 ii (.int .u8 0) 1 Tryz.underlying22 hi hz0 hz1 .i64 .i64 ro (by rw [hz2];omega) (by unfold maxLen;omega) (Nat.le_refl _)
   simp [does,doesUpon,go_sem,hv,hrun]
   exact ⟨⟨r2.os,r2.tape,r2.output,r2.size,fun k hk=>r2.block k hk (by simp)⟩,made_byt r1,Nat.le_trans G.le hx.le⟩
  ·obtain ⟨k0,k1,k2⟩:=K0 x hx
   simp [does,doesUpon,go_sem,hv,k2,Since.refl]
  ·simp [does,doesUpon,go_sem,Since.refl]
 case refine_3=>
  intro vals x hx hv
  have h11:=hv 11 (by decide)
  clear hv
  obtain ⟨r,c,e,k1,T,h1,h2,h3⟩:=h11
  simp only [e]
  generalize vals 0=v0
  generalize vals 1=v1
  generalize vals 2=v2
  generalize vals 3=v3
  generalize vals 4=v4
  generalize vals 5=v5
  generalize vals 6=v6
  generalize vals 7=v7
  generalize vals 8=v8
  generalize vals 9=v9
  generalize vals 10=v10
  obtain ⟨c0,c1,c2⟩:=K0 x hx
  obtain ⟨cap,w1,hconv,hcap,g1,hsz,hcell⟩:=bytesText d x
  have hR:Ring w1 r c ro q 0 (fun _=>0):=⟨k1.since g1,T.since g1,h3,by omega,h2',hlt,by omega⟩
  have hc:=T.lt
  have hput:=put r c ro q 0 (fun _=>0) (byteAt d) x.heap.size d.size cap d.size (Nat.le_refl _) (by omega) (.inl rfl) hcap (by omega) w1 hR hcell (by omega) (by omega) w.heap.size h1 h2 (Nat.le_trans (G.trans hx).le g1.le)
  replace hcell:Hid _:=hcell
  go_wp2_with (fail)
  refine hput.mono ?_
  rintro _ w2 ⟨rfl,hB,f',R',hold,hnew⟩
  replace hnew:Hid _:=hnew
  go_wp2
  go_ret
  refine ⟨r,c,f',q,rfl,h1,h2,by simpa using R',fun j hj=>?_,?_⟩
  ·have:=hnew.out j hj
   rwa [Nat.zero_add] at this
  ·exact Below.trans ((G.trans hx).trans g1) hB
end Go.Proofs.YtmigalhmlofbkaaGreatDoor
