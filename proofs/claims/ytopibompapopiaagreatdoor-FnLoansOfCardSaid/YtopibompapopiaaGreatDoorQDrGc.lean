/- The model's draw of a program that is bent,at the argument of ProgramValid. -/
import Derived.Test.YtopibompapopiaaGreatDoorQDwL
import Derived.Test.YtopibompapopiaaGreatDoorQDwC
import Derived.Test.YtopibompapopiaaGreatDoorQDwD
namespace Go.Proofs.YtopibompapopiaaGreatDoor
open Go.RowKit Go.Deep
set_option linter.unusedVariables false
set_option maxRecDepth 100000 in
set_option maxHeartbeats 2000000 in
theorem drawProgramValid_any (nb cb:Nat) (Ab:Option Addr) (w:World) (hB:ByteV w w.heap.size nb Ab cb):Calls Tryz.prog 40 #[.slice Ab nb cb] w (ProgE w):=by
 obtain ⟨w0,hw0⟩:∃ w0,w.alloc (.cells #[.slice none 0 0,.slice none 0 0] 26)=w0:=⟨_,rfl⟩
 have hb0:=(Below.refl w.heap.size w).alloc (Nat.le_refl _) (.cells #[.slice none 0 0,.slice none 0 0] 26)
 have X0:=Lib.hid (heap_alloc_new w (.cells #[.slice none 0 0,.slice none 0 0] 26))
 have hz0:w.heap.size+1≤(w.alloc (.cells #[.slice none 0 0,.slice none 0 0] 26)).heap.size:=Nat.le_of_eq (by simp)
 have HO:=Lib.hid (l17Open_any nb cb Ab (w.alloc (.cells #[.slice none 0 0,.slice none 0 0] 26)) (hB.below hb0 (by simp)))
 rw [hw0] at X0 hz0 HO
 have HB0:Hid (Below w.heap.size w w0):=by rw [← hw0];exact hb0
 clear hb0 hB
 go_enter Tryz.func40,Tryz.ntmps40
 go_upto_region 1 with (fail)
 clear hw0
 go_wp2_with fail
 refine HO.out.mono ?_
 rintro E w1 ⟨rfl,hs1,hb1⟩
 have hz1:=hb1.size
 have hsl:=hs1.lt
 obtain ⟨R,hR⟩:∃ R,w0.heap.size=R:=⟨_,rfl⟩
 have S1:=Lib.hid hs1
 have X1:=Lib.hid ((hb1.block w.heap.size (by omega)).trans X0.out)
 have N1:=Lib.hid (HB0.out.trans (hb1.mono (by omega)))
 rw [hR] at S1 hz0 hz1 hsl
 rw [hR]
 clear hs1 hb1 HO hR
 have HDR:=Lib.hid (l1Draw_any R 0 w1 S1.out (by omega))
 go_wp2_with fail
 refine HDR.out.mono ?_
 rintro E w2 ⟨ts0,s0,At0,As0,ct0,cs0,rfl,hr2,ht0,hs0,hs2,hb2⟩
 have hz2:=hb2.size
 have X2:=Lib.hid ((hb2.block w.heap.size (by omega) (by omega)).trans X1.out)
 have N2:=Lib.hid (N1.out.trans ((hb2.below (by omega)).mono (by omega)))
 have HMU:=Lib.hid (l1Mutate_any R _ ts0 s0 At0 As0 ct0 cs0 w2 hs2 (by omega) (by omega) (by omega) (hr2.1.mono (Nat.zero_le _) (Nat.le_refl _)) (hr2.2.mono (Nat.zero_le _) (Nat.le_refl _)))
 obtain ⟨n0,hn0⟩:∃ n,ts0.length=n:=⟨_,rfl⟩
 obtain ⟨m0,hm0⟩:∃ m,s0.len=m:=⟨_,rfl⟩
 rw [hn0,hm0] at HMU
 rw [hn0,hm0]
 clear hn0 hm0 hr2 ht0 hs0 hs2 hb2 HDR
 go_wp2_with fail
 refine HMU.out.mono ?_
 rintro E w3 ⟨ts,s,At,As,ct,cs,rfl,hr3,ht,hs,hs3,hb3⟩
 have hz3:=hb3.size
 obtain ⟨n,hn⟩:∃ n,ts.length=n:=⟨_,rfl⟩
 obtain ⟨m,hm⟩:∃ m,s.len=m:=⟨_,rfl⟩
 have HN:=Lib.hid hn
 have HM:=Lib.hid hm
 rw [hn,hm]
 have hX3:=(hb3.block w.heap.size (by omega) (by omega)).trans X2.out
 have z0:w3.cell? ⟨w.heap.size,0,none⟩=some (.slice none 0 0):=(cB hX3 0).trans rfl
 have z1:w3.cell? ⟨w.heap.size,1,none⟩=some (.slice none 0 0):=(cB hX3 1).trans rfl
 have y0:=fB hX3 0
 have y1:=fB hX3 1
 have HR:=Lib.hid (((hr3.setLow (o:=0) (x:=.slice At n ct) (show w.heap.size<w2.heap.size by omega)).setLow (o:=1) (x:=.slice As m cs) (show w.heap.size<w2.heap.size by omega)).mono (show w.heap.size≤w2.heap.size by omega))
 have HT:=Lib.hid ht
 have HS:=Lib.hid hs
 have HBF:=Lib.hid (((N2.out.trans ((hb3.below (by omega)).mono (by omega))).setCell (p:=⟨w.heap.size,0,none⟩) (Nat.le_refl _) (.slice At n ct)).setCell (p:=⟨w.heap.size,1,none⟩) (Nat.le_refl _) (.slice As m cs))
 clear hn hm hX3 hr3 ht hs hs3 hb3 HMU
 go_wp2_with fail
 exact bodyPost_ret (v:=.agg #[.slice At n ct,.slice As m cs]) (by simp [results,Tryz.results40,go_sem,z0,z1]) rfl ⟨ts,s,At,As,ct,cs,by rw [HN.out,HM.out],HR.out,HT.out,HS.out,HBF.out⟩
set_option maxRecDepth 100000 in
theorem drawLoansOf_any (nb cb:Nat) (Ab:Option Addr) (w:World) (hB:ByteV w w.heap.size nb Ab cb):Calls Tryz.prog 13 #[.slice Ab nb cb] w (ProgE w):=by
 obtain ⟨w0,hw0⟩:∃ w0,w.alloc (.cells #[.slice none 0 0,.slice none 0 0] 26)=w0:=⟨_,rfl⟩
 have hb0:=(Below.refl w.heap.size w).alloc (Nat.le_refl _) (.cells #[.slice none 0 0,.slice none 0 0] 26)
 have X0:=Lib.hid (heap_alloc_new w (.cells #[.slice none 0 0,.slice none 0 0] 26))
 have hz0:w.heap.size+1≤(w.alloc (.cells #[.slice none 0 0,.slice none 0 0] 26)).heap.size:=Nat.le_of_eq (by simp)
 have HP:=Lib.hid (drawProgramValid_any nb cb Ab (w.alloc (.cells #[.slice none 0 0,.slice none 0 0] 26)) (hB.below hb0 (by simp)))
 rw [hw0] at X0 hz0 HP
 have HB0:Hid (Below w.heap.size w w0):=by rw [← hw0];exact hb0
 clear hb0 hB
 go_enter Tryz.func13,Tryz.ntmps13
 go_upto_region 1 with (fail)
 clear hw0
 go_wp2_with fail
 refine HP.out.mono ?_
 rintro E w1 ⟨ts,s,At,As,ct,cs,rfl,hr,ht,hs,hb⟩
 have hz1:=hb.size
 obtain ⟨n,hn⟩:∃ n,ts.length=n:=⟨_,rfl⟩
 obtain ⟨m,hm⟩:∃ m,s.len=m:=⟨_,rfl⟩
 have HN:=Lib.hid hn
 have HM:=Lib.hid hm
 rw [hn,hm]
 have hX:=(hb.block w.heap.size (by omega)).trans X0.out
 have z0:w1.cell? ⟨w.heap.size,0,none⟩=some (.slice none 0 0):=(cB hX 0).trans rfl
 have z1:w1.cell? ⟨w.heap.size,1,none⟩=some (.slice none 0 0):=(cB hX 1).trans rfl
 have y0:=fB hX 0
 have y1:=fB hX 1
 have HR:=Lib.hid ((((hr.setLow (o:=0) (x:=.slice At n ct) (show w.heap.size<w0.heap.size by omega)).setLow (o:=1) (x:=.slice As m cs) (show w.heap.size<w0.heap.size by omega))).mono (show w.heap.size≤w0.heap.size by omega))
 have HT:=Lib.hid ht
 have HS:=Lib.hid hs
 have HBF:=Lib.hid (((HB0.out.trans (hb.mono (by omega))).setCell (p:=⟨w.heap.size,0,none⟩) (Nat.le_refl _) (.slice At n ct)).setCell (p:=⟨w.heap.size,1,none⟩) (Nat.le_refl _) (.slice As m cs))
 clear hn hm hX hr ht hs hb HP
 go_wp2_with fail
 exact bodyPost_ret (v:=.agg #[.slice At n ct,.slice As m cs]) (by simp [results,Tryz.results13,go_sem,z0,z1]) rfl ⟨ts,s,At,As,ct,cs,by rw [HN.out,HM.out],HR.out,HT.out,HS.out,HBF.out⟩
end Go.Proofs.YtopibompapopiaaGreatDoor
