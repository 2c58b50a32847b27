/- The model's draw of a program with loans and the number of a point that it often has. -/
import Derived.Test.YtopibompapopiaaGreatDoorQDwL
import Derived.Test.YtopibompapopiaaGreatDoorQDwC
import Derived.Test.YtopibompapopiaaGreatDoorQL2Xb
namespace Go.Proofs.YtopibompapopiaaGreatDoor
open Go.RowKit Go.Deep
set_option linter.unusedVariables false
set_option maxRecDepth 100000 in
set_option maxHeartbeats 2000000 in
theorem l4Place_any (nb cb:Nat) (Ab:Option Addr) (w:World) (hB:ByteV w w.heap.size nb Ab cb):Calls Tryz.prog 60 #[.slice Ab nb cb] w (PlaceD w):=by
 obtain ⟨w0,hw0⟩:∃ w0,w.alloc (.cells #[.slice none 0 0,.slice none 0 0] 26)=w0:=⟨_,rfl⟩
 have hb0:=(Below.refl w.heap.size w).alloc (Nat.le_refl _) (.cells #[.slice none 0 0,.slice none 0 0] 26)
 have X0:=Lib.hid (heap_alloc_new w (.cells #[.slice none 0 0,.slice none 0 0] 26))
 have hz0:w.heap.size+1≤(w.alloc (.cells #[.slice none 0 0,.slice none 0 0] 26)).heap.size:=Nat.le_of_eq (by simp)
 have HO:=Lib.hid (l17Open_any nb cb Ab (w.alloc (.cells #[.slice none 0 0,.slice none 0 0] 26)) (hB.below hb0 (by simp)))
 rw [hw0] at X0 hz0 HO
 have HB0:Hid (Below w.heap.size w w0):=by rw [← hw0];exact hb0
 clear hb0 hB
 go_enter Tryz.func60,Tryz.ntmps60
 go_upto_region 1 with (fail)
 clear hw0
 go_wp2_with fail
 refine HO.out.mono ?_
 rintro E w1 ⟨rfl,hs1,hb1⟩
 have hz1:=hb1.size
 have hsl:=hs1.lt
 obtain ⟨R,hR⟩:∃ R,w0.heap.size=R:=⟨_,rfl⟩
 have S1:=Lib.hid hs1
 have X1:=Lib.hid ((hb1.block w.heap.size (by omega)).trans X0.out)
 have N1:=Lib.hid (HB0.out.trans (hb1.mono (by omega)))
 rw [hR] at S1 hz0 hz1 hsl
 rw [hR]
 clear hs1 hb1 HO hR
 have HDR:=Lib.hid (l1Draw_any R 0 w1 S1.out (by omega))
 go_wp2_with fail
 refine HDR.out.mono ?_
 rintro E w2 ⟨ts0,s0,At0,As0,ct0,cs0,rfl,hr2,ht0,hs0,hs2,hb2⟩
 have hz2:=hb2.size
 have X2:=Lib.hid ((hb2.block w.heap.size (by omega) (by omega)).trans X1.out)
 have N2:=Lib.hid (N1.out.trans ((hb2.below (by omega)).mono (by omega)))
 have HMU:=Lib.hid (l1Mutate_any R _ ts0 s0 At0 As0 ct0 cs0 w2 hs2 (by omega) (by omega) (by omega) (hr2.1.mono (Nat.zero_le _) (Nat.le_refl _)) (hr2.2.mono (Nat.zero_le _) (Nat.le_refl _)))
 obtain ⟨n0,hn0⟩:∃ n,ts0.length=n:=⟨_,rfl⟩
 obtain ⟨m0,hm0⟩:∃ m,s0.len=m:=⟨_,rfl⟩
 rw [hn0,hm0] at HMU
 rw [hn0,hm0]
 clear hn0 hm0 hr2 ht0 hs0 hs2 hb2 HDR
 go_wp2_with fail
 refine HMU.out.mono ?_
 rintro E w3 ⟨ts,s,At,As,ct,cs,rfl,hr3,ht,hs,hs3,hb3⟩
 have hz3:=hb3.size
 obtain ⟨n,hn⟩:∃ n,ts.length=n:=⟨_,rfl⟩
 obtain ⟨m,hm⟩:∃ m,s.len=m:=⟨_,rfl⟩
 have HN:=Lib.hid hn
 have HM:=Lib.hid hm
 rw [hn,hm]
 have hba:=(Below.refl w3.heap.size w3).alloc (Nat.le_refl _) (.cells #[.slice At n ct,.slice As m cs] 26)
 have h4n:=heap_alloc_new w3 (.cells #[.slice At n ct,.slice As m cs] 26)
 have h4z:w3.heap.size+1≤(w3.alloc (.cells #[.slice At n ct,.slice As m cs] 26)).heap.size:=Nat.le_of_eq (by simp)
 obtain ⟨w4,hw4⟩:∃ w4,w3.alloc (.cells #[.slice At n ct,.slice As m cs] 26)=w4:=⟨_,rfl⟩
 have HR4:=Lib.hid (hr3.below hba)
 have S4:=Lib.hid (hs3.below hba)
 have N4:=Lib.hid ((N2.out.trans ((hb3.below (by omega)).mono (by omega))).trans (hba.mono (by omega)))
 have X4:=Lib.hid ((hba.block w.heap.size (by omega)).trans ((hb3.block w.heap.size (by omega) (by omega)).trans X2.out))
 rw [hw4] at HR4 S4 N4 X4 h4n h4z
 have Y4:=Lib.hid h4n
 have HT:=Lib.hid ht
 have HS:=Lib.hid hs
 clear hn hm hba h4n hr3 ht hs hs3 hb3 HMU
 have HPO:=specPointsOf_any ts s At As ct cs w4 (by have:=HS.out;omega) (HR4.out.1.mono (Nat.zero_le _) (Nat.le_refl _)) (HR4.out.2.mono (Nat.zero_le _) (Nat.le_refl _))
 rw [HN.out,HM.out] at HPO
 replace HPO:=Lib.hid HPO
 have y0:w4.cell? ⟨w3.heap.size,0,none⟩=some (.slice At n ct):=(cB Y4.out 0).trans rfl
 have y1:w4.cell? ⟨w3.heap.size,1,none⟩=some (.slice As m cs):=(cB Y4.out 1).trans rfl
 go_upto_region 3 with (fail)
 clear hw4
 go_wp2_with fail
 refine HPO.out.mono ?_
 rintro E w5 ⟨v,rfl,hrow,hb5⟩
 have hz5:=hb5.size
 obtain ⟨Av,cv,rfl⟩:=pRow_lenL hrow
 obtain ⟨l,hl⟩:∃ l,(pointsB (validB ts s) s).length=l:=⟨_,rfl⟩
 have hl9:l≤90000:=by rw [← hl];exact points_lenL _ _ (by have:=HS.out;omega)
 rw [hl]
 have HR5:=Lib.hid (HR4.out.below hb5)
 have S5:=Lib.hid (S4.out.below hb5)
 have N5:=Lib.hid (N4.out.trans (hb5.mono (by omega)))
 have Y5:=Lib.hid ((hb5.block w3.heap.size (by omega)).trans Y4.out)
 have X5:=Lib.hid ((hb5.block w.heap.size (by omega)).trans X4.out)
 clear hrow hb5 HPO y0 y1 hl
 by_cases hl0:l=0
 ·subst hl0
  have S6:=S5
  have N6:=N5
  have Y6:=Y5
  have X6:=X5
  have HR6:=HR5
  go_upto_region 5 with (fail)
  have hK0:PrK w.heap.size w3.heap.size (.slice At n ct) (.slice As m cs) w5:=prK_mk Y6.out X6.out
  have hK1:PrK w.heap.size w3.heap.size (.slice At n ct) (.slice As m cs) w5.drew:=hK0
  have hbl:=((Below.refl w5.heap.size w5).alloc (Nat.le_refl _) (.cells #[.int .i64 (-1),.int .i64 60,.int .i64 0] 3)).drew
  have hK2:PrK w.heap.size w3.heap.size (.slice At n ct) (.slice As m cs) (w5.alloc (.cells #[.int .i64 (-1),.int .i64 60,.int .i64 0] 3)).drew:=prK_mk ((hbl.block w3.heap.size (by omega)).trans Y6.out) ((hbl.block w.heap.size (by omega)).trans X6.out)
  have Y7:=Lib.hid ((hbl.block w3.heap.size (by omega)).trans Y6.out)
  have X7:=Lib.hid ((hbl.block w.heap.size (by omega)).trans X6.out)
  have HNM:=Lib.hid (num_any R _ w5.heap.size [-1,60,0] (w5.alloc (.cells #[.int .i64 (-1),.int .i64 60,.int .i64 0] 3)).drew (heap_alloc_new w5 _) (by omega) (by decide) (by decide) (S6.out.below hbl) (by omega))
  have HBL:=Lib.hid hbl
  have hne:w.heap.size≠w3.heap.size:=by omega
  clear hbl
  go_region_held3 (PrK w.heap.size w3.heap.size (.slice At n ct) (.slice As m cs))
   (first | with_reducible exact hK0 | with_reducible exact hK1 | with_reducible exact hK2 | with_reducible exact hK3 | with_reducible exact prK_put hK3 hne)
   ((go_at_call 53;refine HNM.out.mono ?_;rintro E w7 ⟨q,hq,rfl,ks7,ko7⟩;have hY7:=(ko7.block w3.heap.size (by omega)).trans Y7.out;have hX7:=(ko7.block w.heap.size (by omega)).trans X7.out;have hK3:PrK w.heap.size w3.heap.size (.slice At n ct) (.slice As m cs) w7:=prK_mk hY7 hX7))
  have k7:w5.heap.size≤w7.heap.size:=by rw [ko7.size];exact HBL.out.size
  have HRF:=Lib.hid (((((HR6.out.below HBL.out).but (But.of_one ko7) (by omega)).setLow (o:=0) (x:=.slice At n ct) (show w.heap.size<w2.heap.size by omega)).setLow (o:=1) (x:=.slice As m cs) (show w.heap.size<w2.heap.size by omega)).mono (show w.heap.size≤w2.heap.size by omega))
  have HBF:=Lib.hid ((((N6.out.trans (HBL.out.mono (by omega))).trans (ko7.below (by omega))).setCell (p:=⟨w.heap.size,0,none⟩) (Nat.le_refl _) (.slice At n ct)).setCell (p:=⟨w.heap.size,1,none⟩) (Nat.le_refl _) (.slice As m cs))
  have HQ:Hid (-1≤q∧q≤100000):=by
   simp only [List.mem_cons,List.not_mem_nil,or_false] at hq
   unfold Hid
   omega
  clear hq
  have z0:w7.cell? ⟨w.heap.size,0,none⟩=some (.slice none 0 0):=(cB hX7 0).trans rfl
  have z1:w7.cell? ⟨w.heap.size,1,none⟩=some (.slice none 0 0):=(cB hX7 1).trans rfl
  clear hK0 hK1 hK2 hK3 HNM ks7 ko7 hY7 hX7
  go_wp2_with fail
  exact bodyPost_ret (v:=.tuple #[.agg #[.slice At n ct,.slice As m cs],.int .i64 q]) (by simp [results,Tryz.results60,go_sem,z0,z1]) rfl ⟨ts,s,At,As,ct,cs,q,by rw [HN.out,HM.out],HRF.out,HT.out,HS.out,HQ.out,HBF.out⟩
 ·have hl1:(l:Int)≠0:=by omega
  have HPK:=Lib.hid (pick_any R _ 12 w5 (by omega) (by omega) S5.out (by omega))
  go_wp2_with fail
  refine HPK.out.mono ?_
  rintro E w6 ⟨k,hk,rfl,ks6,ko6⟩
  have hz6:w6.heap.size=w5.heap.size:=ko6.size
  have HZ6:=Lib.hid hz6
  have hz6':w5.heap.size≤w6.heap.size:=Nat.le_of_eq hz6.symm
  have S6:=Lib.hid ks6
  have N6:=Lib.hid (N5.out.trans (ko6.below (by omega)))
  have Y6:=Lib.hid ((ko6.block w3.heap.size (by omega)).trans Y5.out)
  have X6:=Lib.hid ((ko6.block w.heap.size (by omega)).trans X5.out)
  have HR6:=Lib.hid (HR5.out.but (But.of_one ko6) (by omega))
  clear ks6 ko6 HPK hz6
  by_cases hk0:k=0
  ·subst hk0
   go_upto_region 5 with (fail)
   have hK0:PrK w.heap.size w3.heap.size (.slice At n ct) (.slice As m cs) w6:=prK_mk Y6.out X6.out
   have hK1:PrK w.heap.size w3.heap.size (.slice At n ct) (.slice As m cs) w6.drew:=hK0
   have hbl:=((Below.refl w6.heap.size w6).alloc (Nat.le_refl _) (.cells #[.int .i64 (-1),.int .i64 60,.int .i64 0] 3)).drew
   have hK2:PrK w.heap.size w3.heap.size (.slice At n ct) (.slice As m cs) (w6.alloc (.cells #[.int .i64 (-1),.int .i64 60,.int .i64 0] 3)).drew:=prK_mk ((hbl.block w3.heap.size (by omega)).trans Y6.out) ((hbl.block w.heap.size (by omega)).trans X6.out)
   have Y7:=Lib.hid ((hbl.block w3.heap.size (by omega)).trans Y6.out)
   have X7:=Lib.hid ((hbl.block w.heap.size (by omega)).trans X6.out)
   have HNM:=Lib.hid (num_any R _ w6.heap.size [-1,60,0] (w6.alloc (.cells #[.int .i64 (-1),.int .i64 60,.int .i64 0] 3)).drew (heap_alloc_new w6 _) (by omega) (by decide) (by decide) (S6.out.below hbl) (by omega))
   have HBL:=Lib.hid hbl
   have hne:w.heap.size≠w3.heap.size:=by omega
   clear hbl
   go_region_held3 (PrK w.heap.size w3.heap.size (.slice At n ct) (.slice As m cs))
    (first | with_reducible exact hK0 | with_reducible exact hK1 | with_reducible exact hK2 | with_reducible exact hK3 | with_reducible exact prK_put hK3 hne)
    ((go_at_call 53;refine HNM.out.mono ?_;rintro E w7 ⟨q,hq,rfl,ks7,ko7⟩;have hY7:=(ko7.block w3.heap.size (by omega)).trans Y7.out;have hX7:=(ko7.block w.heap.size (by omega)).trans X7.out;have hK3:PrK w.heap.size w3.heap.size (.slice At n ct) (.slice As m cs) w7:=prK_mk hY7 hX7))
   have k7:w6.heap.size≤w7.heap.size:=by rw [ko7.size];exact HBL.out.size
   have HRF:=Lib.hid (((((HR6.out.below HBL.out).but (But.of_one ko7) (by omega)).setLow (o:=0) (x:=.slice At n ct) (show w.heap.size<w2.heap.size by omega)).setLow (o:=1) (x:=.slice As m cs) (show w.heap.size<w2.heap.size by omega)).mono (show w.heap.size≤w2.heap.size by omega))
   have HBF:=Lib.hid ((((N6.out.trans (HBL.out.mono (by omega))).trans (ko7.below (by omega))).setCell (p:=⟨w.heap.size,0,none⟩) (Nat.le_refl _) (.slice At n ct)).setCell (p:=⟨w.heap.size,1,none⟩) (Nat.le_refl _) (.slice As m cs))
   have HQ:Hid (-1≤q∧q≤100000):=by
    simp only [List.mem_cons,List.not_mem_nil,or_false] at hq
    unfold Hid
    omega
   clear hq
   have z0:w7.cell? ⟨w.heap.size,0,none⟩=some (.slice none 0 0):=(cB hX7 0).trans rfl
   have z1:w7.cell? ⟨w.heap.size,1,none⟩=some (.slice none 0 0):=(cB hX7 1).trans rfl
   clear hK0 hK1 hK2 hK3 HNM ks7 ko7 hY7 hX7
   go_wp2_with fail
   exact bodyPost_ret (v:=.tuple #[.agg #[.slice At n ct,.slice As m cs],.int .i64 q]) (by simp [results,Tryz.results60,go_sem,z0,z1]) rfl ⟨ts,s,At,As,ct,cs,q,by rw [HN.out,HM.out],HRF.out,HT.out,HS.out,HQ.out,HBF.out⟩
  ·have hk1:((k:Int)==0)=false:=by simp;omega
   go_upto_region 6 with (fail)
   have hK0:PrK w.heap.size w3.heap.size (.slice At n ct) (.slice As m cs) w6:=prK_mk Y6.out X6.out
   have hK1:PrK w.heap.size w3.heap.size (.slice At n ct) (.slice As m cs) w6.drew:=hK0
   have HNM:=Lib.hid (pick_any R _ (l:Int) w6.drew (by omega) (by omega) S6.out (by omega))
   have hne:w.heap.size≠w3.heap.size:=by omega
   go_region_held3 (PrK w.heap.size w3.heap.size (.slice At n ct) (.slice As m cs))
    (first | with_reducible exact hK0 | with_reducible exact hK1 | with_reducible exact hK3 | with_reducible exact prK_put hK3 hne)
    ((go_at_call 88;refine HNM.out.mono ?_;rintro E w7 ⟨q,hq,rfl,ks7,ko7⟩;have hY7:=(ko7.block w3.heap.size (by omega)).trans Y6.out;have hX7:=(ko7.block w.heap.size (by omega)).trans X6.out;have hK3:PrK w.heap.size w3.heap.size (.slice At n ct) (.slice As m cs) w7:=prK_mk hY7 hX7))
   have k7:w6.heap.size≤w7.heap.size:=Nat.le_of_eq ko7.size.symm
   have HRF:=Lib.hid (((((HR6.out.below ((Below.refl w6.heap.size w6).drew)).but (But.of_one ko7) (by omega)).setLow (o:=0) (x:=.slice At n ct) (show w.heap.size<w2.heap.size by omega)).setLow (o:=1) (x:=.slice As m cs) (show w.heap.size<w2.heap.size by omega)).mono (show w.heap.size≤w2.heap.size by omega))
   have HBF:=Lib.hid ((((N6.out.trans (((Below.refl w6.heap.size w6).drew).mono (by omega))).trans (ko7.below (by omega))).setCell (p:=⟨w.heap.size,0,none⟩) (Nat.le_refl _) (.slice At n ct)).setCell (p:=⟨w.heap.size,1,none⟩) (Nat.le_refl _) (.slice As m cs))
   have HQ:Hid (-1≤(q:Int)∧(q:Int)≤100000):=by
    unfold Hid
    omega
   clear hq
   have z0:w7.cell? ⟨w.heap.size,0,none⟩=some (.slice none 0 0):=(cB hX7 0).trans rfl
   have z1:w7.cell? ⟨w.heap.size,1,none⟩=some (.slice none 0 0):=(cB hX7 1).trans rfl
   clear hK0 hK1 hK3 HNM ks7 ko7 hY7 hX7
   go_wp2_with fail
   exact bodyPost_ret (v:=.tuple #[.agg #[.slice At n ct,.slice As m cs],.int .i64 q]) (by simp [results,Tryz.results60,go_sem,z0,z1]) rfl ⟨ts,s,At,As,ct,cs,q,by rw [HN.out,HM.out],HRF.out,HT.out,HS.out,HQ.out,HBF.out⟩
set_option maxRecDepth 100000 in
theorem drawPlacedLoans_any (nb cb:Nat) (Ab:Option Addr) (w:World) (hB:ByteV w w.heap.size nb Ab cb):Calls Tryz.prog 25 #[.slice Ab nb cb] w (PlaceD w):=by
 obtain ⟨w0,hw0⟩:∃ w0,w.alloc (.cells #[.slice none 0 0,.slice none 0 0] 26)=w0:=⟨_,rfl⟩
 have hb0:=(Below.refl w.heap.size w).alloc (Nat.le_refl _) (.cells #[.slice none 0 0,.slice none 0 0] 26)
 have X0:=Lib.hid (heap_alloc_new w (.cells #[.slice none 0 0,.slice none 0 0] 26))
 have hz0:w.heap.size+1≤(w.alloc (.cells #[.slice none 0 0,.slice none 0 0] 26)).heap.size:=Nat.le_of_eq (by simp)
 have HP:=Lib.hid (l4Place_any nb cb Ab (w.alloc (.cells #[.slice none 0 0,.slice none 0 0] 26)) (hB.below hb0 (by simp)))
 rw [hw0] at X0 hz0 HP
 have HB0:Hid (Below w.heap.size w w0):=by rw [← hw0];exact hb0
 clear hb0 hB
 go_enter Tryz.func25,Tryz.ntmps25
 go_upto_region 1 with (fail)
 clear hw0
 go_wp2_with fail
 refine HP.out.mono ?_
 rintro E w1 ⟨ts,s,At,As,ct,cs,q,rfl,hr,ht,hs,hq,hb⟩
 have hz1:=hb.size
 obtain ⟨n,hn⟩:∃ n,ts.length=n:=⟨_,rfl⟩
 obtain ⟨m,hm⟩:∃ m,s.len=m:=⟨_,rfl⟩
 have HN:=Lib.hid hn
 have HM:=Lib.hid hm
 rw [hn,hm]
 have hX:=(hb.block w.heap.size (by omega)).trans X0.out
 have z0:w1.cell? ⟨w.heap.size,0,none⟩=some (.slice none 0 0):=(cB hX 0).trans rfl
 have z1:w1.cell? ⟨w.heap.size,1,none⟩=some (.slice none 0 0):=(cB hX 1).trans rfl
 have y0:=fB hX 0
 have y1:=fB hX 1
 have HR:=Lib.hid ((((hr.setLow (o:=0) (x:=.slice At n ct) (show w.heap.size<w0.heap.size by omega)).setLow (o:=1) (x:=.slice As m cs) (show w.heap.size<w0.heap.size by omega))).mono (show w.heap.size≤w0.heap.size by omega))
 have HT:=Lib.hid ht
 have HS:=Lib.hid hs
 have HQ:=Lib.hid hq
 have HBF:=Lib.hid (((HB0.out.trans (hb.mono (by omega))).setCell (p:=⟨w.heap.size,0,none⟩) (Nat.le_refl _) (.slice At n ct)).setCell (p:=⟨w.heap.size,1,none⟩) (Nat.le_refl _) (.slice As m cs))
 clear hn hm hX hr ht hs hq hb HP
 go_wp2_with fail
 exact bodyPost_ret (v:=.tuple #[.agg #[.slice At n ct,.slice As m cs],.int .i64 q]) (by simp [results,Tryz.results25,go_sem,z0,z1]) rfl ⟨ts,s,At,As,ct,cs,q,by rw [HN.out,HM.out],HR.out,HT.out,HS.out,HQ.out,HBF.out⟩
set_option maxRecDepth 100000 in
theorem drawLiveLoans_any (nb cb:Nat) (Ab:Option Addr) (w:World) (hB:ByteV w w.heap.size nb Ab cb):Calls Tryz.prog 29 #[.slice Ab nb cb] w (PlaceD w):=by
 obtain ⟨w0,hw0⟩:∃ w0,w.alloc (.cells #[.slice none 0 0,.slice none 0 0] 26)=w0:=⟨_,rfl⟩
 have hb0:=(Below.refl w.heap.size w).alloc (Nat.le_refl _) (.cells #[.slice none 0 0,.slice none 0 0] 26)
 have X0:=Lib.hid (heap_alloc_new w (.cells #[.slice none 0 0,.slice none 0 0] 26))
 have hz0:w.heap.size+1≤(w.alloc (.cells #[.slice none 0 0,.slice none 0 0] 26)).heap.size:=Nat.le_of_eq (by simp)
 have HP:=Lib.hid (l4Place_any nb cb Ab (w.alloc (.cells #[.slice none 0 0,.slice none 0 0] 26)) (hB.below hb0 (by simp)))
 rw [hw0] at X0 hz0 HP
 have HB0:Hid (Below w.heap.size w w0):=by rw [← hw0];exact hb0
 clear hb0 hB
 go_enter Tryz.func29,Tryz.ntmps29
 go_upto_region 1 with (fail)
 clear hw0
 go_wp2_with fail
 refine HP.out.mono ?_
 rintro E w1 ⟨ts,s,At,As,ct,cs,q,rfl,hr,ht,hs,hq,hb⟩
 have hz1:=hb.size
 obtain ⟨n,hn⟩:∃ n,ts.length=n:=⟨_,rfl⟩
 obtain ⟨m,hm⟩:∃ m,s.len=m:=⟨_,rfl⟩
 have HN:=Lib.hid hn
 have HM:=Lib.hid hm
 rw [hn,hm]
 have hX:=(hb.block w.heap.size (by omega)).trans X0.out
 have z0:w1.cell? ⟨w.heap.size,0,none⟩=some (.slice none 0 0):=(cB hX 0).trans rfl
 have z1:w1.cell? ⟨w.heap.size,1,none⟩=some (.slice none 0 0):=(cB hX 1).trans rfl
 have y0:=fB hX 0
 have y1:=fB hX 1
 have HR:=Lib.hid ((((hr.setLow (o:=0) (x:=.slice At n ct) (show w.heap.size<w0.heap.size by omega)).setLow (o:=1) (x:=.slice As m cs) (show w.heap.size<w0.heap.size by omega))).mono (show w.heap.size≤w0.heap.size by omega))
 have HT:=Lib.hid ht
 have HS:=Lib.hid hs
 have HQ:=Lib.hid hq
 have HBF:=Lib.hid (((HB0.out.trans (hb.mono (by omega))).setCell (p:=⟨w.heap.size,0,none⟩) (Nat.le_refl _) (.slice At n ct)).setCell (p:=⟨w.heap.size,1,none⟩) (Nat.le_refl _) (.slice As m cs))
 clear hn hm hX hr ht hs hq hb HP
 go_wp2_with fail
 exact bodyPost_ret (v:=.tuple #[.agg #[.slice At n ct,.slice As m cs],.int .i64 q]) (by simp [results,Tryz.results29,go_sem,z0,z1]) rfl ⟨ts,s,At,As,ct,cs,q,by rw [HN.out,HM.out],HR.out,HT.out,HS.out,HQ.out,HBF.out⟩
end Go.Proofs.YtopibompapopiaaGreatDoor
