/- The model's draw of a program,the number of a point and a variable. -/
import Derived.Test.YtofcdecpipgmjaaGreatDoorRDrGb
namespace Go.Proofs.YtofcdecpipgmjaaGreatDoor
open Go.RowKit Go.Deep
set_option linter.unusedVariables false
def UseD (w:World) (E:Ending) (w':World):Prop:=∃ (ts:List Int) (s:Sts) (At As:Option Addr) (ct cs:Nat) (a q:Int),E=.returned (.tuple #[.agg #[.slice At ts.length ct,.slice As s.len cs],.int .i64 a,.int .i64 q]) ∧
 ReadsP w' w.heap.size ts s At As ct cs∧ts.length≤1000∧s.size≤40000∧((-1≤a∧a≤100000)∧(-1≤q∧q≤60))∧Below w.heap.size w w'
set_option maxRecDepth 100000 in
set_option maxHeartbeats 2000000 in
theorem l10Case_any (nb cb:Nat) (Ab:Option Addr) (w:World) (hB:ByteV w w.heap.size nb Ab cb):Calls Tryz.prog 38 #[.slice Ab nb cb] w (UseD w):=by
 obtain ⟨w0,hw0⟩:∃ w0,w.alloc (.cells #[.slice none 0 0,.slice none 0 0] 26)=w0:=⟨_,rfl⟩
 have hb0:=(Below.refl w.heap.size w).alloc (Nat.le_refl _) (.cells #[.slice none 0 0,.slice none 0 0] 26)
 have X0:=Lib.hid (heap_alloc_new w (.cells #[.slice none 0 0,.slice none 0 0] 26))
 have hz0:w.heap.size+1≤(w.alloc (.cells #[.slice none 0 0,.slice none 0 0] 26)).heap.size:=Nat.le_of_eq (by simp)
 have HP:=Lib.hid (l3Place_any nb cb Ab (w.alloc (.cells #[.slice none 0 0,.slice none 0 0] 26)) (hB.below hb0 (by simp)))
 rw [hw0] at X0 hz0 HP
 have HB0:Hid (Below w.heap.size w w0):=by rw [← hw0];exact hb0
 have HBY:=Lib.hid hB
 clear hb0 hB
 go_enter Tryz.func38,Tryz.ntmps38
 go_upto_region 1 with (fail)
 clear hw0
 go_wp2_with fail
 refine HP.out.mono ?_
 rintro E w1 ⟨ts,s,At,As,ct,cs,a,rfl,hr1,ht,hs,ha,hb1⟩
 have hz1:=hb1.size
 obtain ⟨n,hn⟩:∃ n,ts.length=n:=⟨_,rfl⟩
 obtain ⟨m,hm⟩:∃ m,s.len=m:=⟨_,rfl⟩
 have HN:=Lib.hid hn
 have HM:=Lib.hid hm
 rw [hn,hm]
 have hba:=(Below.refl w1.heap.size w1).alloc (Nat.le_refl _) (.cells #[.slice At n ct,.slice As m cs] 26)
 have h2n:=heap_alloc_new w1 (.cells #[.slice At n ct,.slice As m cs] 26)
 have h2z:w1.heap.size+1≤(w1.alloc (.cells #[.slice At n ct,.slice As m cs] 26)).heap.size:=Nat.le_of_eq (by simp)
 obtain ⟨w2,hw2⟩:∃ w2,w1.alloc (.cells #[.slice At n ct,.slice As m cs] 26)=w2:=⟨_,rfl⟩
 have HR1:=Lib.hid hr1
 have N1:=Lib.hid (HB0.out.trans (hb1.mono (by omega)))
 have N2:=Lib.hid (N1.out.trans (hba.mono (by omega)))
 have X2:=Lib.hid ((hba.block w.heap.size (by omega)).trans ((hb1.block w.heap.size (by omega)).trans X0.out))
 have HBA:=Lib.hid hba
 rw [hw2] at N2 X2 h2n h2z HBA
 have Y2:=Lib.hid h2n
 have HT:=Lib.hid ht
 have HS:=Lib.hid hs
 have HQA:=Lib.hid ha
 clear hn hm hba h2n hr1 ht hs ha hb1 HP
 have hbd:Below w2.heap.size w2 w2.drew:=(Below.refl w2.heap.size w2).drew
 have HOA:=Lib.hid (l17Open_any nb cb Ab w2.drew (HBY.out.below (N2.out.trans (hbd.mono N2.out.size)) (N2.out.trans (hbd.mono N2.out.size)).size))
 have hbl:=((Below.refl w2.heap.size w2).alloc (Nat.le_refl _) (.cells #[.int .i64 1,.int .i64 0,.int .i64 2,.int .i64 3,.int .i64 4,.int .i64 5,.int .i64 (-1),.int .i64 9] 3)).drew
 have HOB:=Lib.hid (l17Open_any nb cb Ab (w2.alloc (.cells #[.int .i64 1,.int .i64 0,.int .i64 2,.int .i64 3,.int .i64 4,.int .i64 5,.int .i64 (-1),.int .i64 9] 3)).drew (HBY.out.below (N2.out.trans (hbl.mono N2.out.size)) (N2.out.trans (hbl.mono N2.out.size)).size))
 have HLB:=Lib.hid (heap_alloc_new w2 (.cells #[.int .i64 1,.int .i64 0,.int .i64 2,.int .i64 3,.int .i64 4,.int .i64 5,.int .i64 (-1),.int .i64 9] 3))
 have hzl:(w2.alloc (.cells #[.int .i64 1,.int .i64 0,.int .i64 2,.int .i64 3,.int .i64 4,.int .i64 5,.int .i64 (-1),.int .i64 9] 3)).drew.heap.size=w2.heap.size+1:=by simp [World.drew]
 have hzd:w2.drew.heap.size=w2.heap.size:=rfl
 have hza:(w2.alloc (.cells #[.int .i64 1,.int .i64 0,.int .i64 2,.int .i64 3,.int .i64 4,.int .i64 5,.int .i64 (-1),.int .i64 9] 3)).heap.size=w2.heap.size+1:=by simp
 have HBD:=Lib.hid hbd
 have HBL:=Lib.hid hbl
 have hK0:PrK w.heap.size w1.heap.size (.slice At n ct) (.slice As m cs) w2:=prK_mk Y2.out X2.out
 have hK1:PrK w.heap.size w1.heap.size (.slice At n ct) (.slice As m cs) w2.drew:=hK0
 have hK2:PrK w.heap.size w1.heap.size (.slice At n ct) (.slice As m cs) (w2.alloc (.cells #[.int .i64 1,.int .i64 0,.int .i64 2,.int .i64 3,.int .i64 4,.int .i64 5,.int .i64 (-1),.int .i64 9] 3)).drew:=prK_mk ((hbl.block w1.heap.size (by omega)).trans Y2.out) ((hbl.block w.heap.size (by omega)).trans X2.out)
 have hne:w.heap.size≠w1.heap.size:=by omega
 clear hbl hbd
 go_upto_region 2 with (fail)
 clear hw2
 go_region_held3 (PrK w.heap.size w1.heap.size (.slice At n ct) (.slice As m cs))
  (first | with_reducible exact hK0 | with_reducible exact hK1 | with_reducible exact hK2 | with_reducible exact hK3 | with_reducible exact hK4 | with_reducible exact hK5 | with_reducible exact prK_put hK5 hne)
  (first
   | (go_at_call 46;(with_reducible refine HOA.out.mono ?_);rintro E w3 ⟨rfl,hs3,hb3⟩;have hbt:=HBD.out.trans (hb3.mono (Nat.le_of_eq hzd.symm));have hz3:=hbt.size;have hsl:=hs3.lt;have hbl4:=(Below.refl w3.heap.size w3).alloc (Nat.le_refl _) (.cells #[.int .i64 1,.int .i64 0,.int .i64 2,.int .i64 3,.int .i64 4,.int .i64 5,.int .i64 (-1),.int .i64 9] 3);have hK3:PrK w.heap.size w1.heap.size (.slice At n ct) (.slice As m cs) w3:=prK_mk ((hbt.block w1.heap.size (by omega)).trans Y2.out) ((hbt.block w.heap.size (by omega)).trans X2.out);have hK4:PrK w.heap.size w1.heap.size (.slice At n ct) (.slice As m cs) (w3.alloc (.cells #[.int .i64 1,.int .i64 0,.int .i64 2,.int .i64 3,.int .i64 4,.int .i64 5,.int .i64 (-1),.int .i64 9] 3)):=prK_mk ((hbl4.block w1.heap.size (by omega)).trans ((hbt.block w1.heap.size (by omega)).trans Y2.out)) ((hbl4.block w.heap.size (by omega)).trans ((hbt.block w.heap.size (by omega)).trans X2.out));have HNM:Hid (Calls Tryz.prog 49 #[.pointer (some ⟨w2.heap.size,0,none⟩),.slice (some ⟨w3.heap.size,0,none⟩) 8 8] (w3.alloc (.cells #[.int .i64 1,.int .i64 0,.int .i64 2,.int .i64 3,.int .i64 4,.int .i64 5,.int .i64 (-1),.int .i64 9] 3)) fun E w'=>∃ v∈([1,0,2,3,4,5,-1,9]:List Int),E=.returned (.int .i64 v)∧SrcV w' (w2.heap.size) (0+1)∧One (w2.heap.size) (w3.alloc (.cells #[.int .i64 1,.int .i64 0,.int .i64 2,.int .i64 3,.int .i64 4,.int .i64 5,.int .i64 (-1),.int .i64 9] 3)) w'):=num_any w2.heap.size _ w3.heap.size [1,0,2,3,4,5,-1,9] (w3.alloc (.cells #[.int .i64 1,.int .i64 0,.int .i64 2,.int .i64 3,.int .i64 4,.int .i64 5,.int .i64 (-1),.int .i64 9] 3)) (heap_alloc_new w3 _) (Nat.ne_of_lt hsl) (by decide) (by decide) (hs3.below hbl4) (by omega);have HBT:=Lib.hid (hbt.trans (hbl4.mono hz3)))
   | (go_at_call 46;(with_reducible refine HOB.out.mono ?_);rintro E w3 ⟨rfl,hs3,hb3⟩;have hbt:=HBL.out.trans (hb3.mono (by omega));have hz3:=hbt.size;have hsl:=hs3.lt;have hK4:PrK w.heap.size w1.heap.size (.slice At n ct) (.slice As m cs) w3:=prK_mk ((hbt.block w1.heap.size (by omega)).trans Y2.out) ((hbt.block w.heap.size (by omega)).trans X2.out);have hs4:SrcV w3 (w2.heap.size+1) 0:=(by have h9:=hs3;rw [hzl] at h9;exact h9);have HNM:Hid (Calls Tryz.prog 49 #[.pointer (some ⟨w2.heap.size+1,0,none⟩),.slice (some ⟨w2.heap.size,0,none⟩) 8 8] w3 fun E w'=>∃ v∈([1,0,2,3,4,5,-1,9]:List Int),E=.returned (.int .i64 v)∧SrcV w' (w2.heap.size+1) (0+1)∧One (w2.heap.size+1) w3 w'):=num_any (w2.heap.size+1) _ w2.heap.size [1,0,2,3,4,5,-1,9] w3 ((hb3.block w2.heap.size (by omega)).trans HLB.out) (by omega) (by decide) (by decide) hs4 (by omega);have HBT:=Lib.hid hbt)
   | (go_at_call 49;(with_reducible refine HNM.out.mono ?_);rintro E w7 ⟨q,hq,rfl,ks7,ko7⟩;have hbt7:=HBT.out.trans (ko7.below (by first | exact Nat.le_of_eq hzd.symm | omega));have hK5:PrK w.heap.size w1.heap.size (.slice At n ct) (.slice As m cs) w7:=prK_mk ((hbt7.block w1.heap.size (by omega)).trans Y2.out) ((hbt7.block w.heap.size (by omega)).trans X2.out)))
 all_goals
  have hX7:=(hbt7.block w.heap.size (by omega)).trans X2.out
  have HBT7:=HBA.out.trans (hbt7.mono (by omega))
  have HRF:=Lib.hid ((((HR1.out.below HBT7).setLow (o:=0) (x:=.slice At n ct) (show w.heap.size<w0.heap.size by omega)).setLow (o:=1) (x:=.slice As m cs) (show w.heap.size<w0.heap.size by omega)).mono (show w.heap.size≤w0.heap.size by omega))
  have HBF:=Lib.hid (((N2.out.trans (hbt7.mono N2.out.size)).setCell (p:=⟨w.heap.size,0,none⟩) (Nat.le_refl _) (.slice At n ct)).setCell (p:=⟨w.heap.size,1,none⟩) (Nat.le_refl _) (.slice As m cs))
  have HQ:Hid (-1≤q∧q≤60):=by
   simp only [List.mem_cons,List.not_mem_nil,or_false] at hq
   unfold Hid
   omega
  have z0:w7.cell? ⟨w.heap.size,0,none⟩=some (.slice none 0 0):=(cB hX7 0).trans rfl
  have z1:w7.cell? ⟨w.heap.size,1,none⟩=some (.slice none 0 0):=(cB hX7 1).trans rfl
  clear hq HBT7 hbt7 HNM HBT ks7 ko7 hX7 hK0 hK1 hK2 hK4 hK5
  go_wp2_with fail
  exact bodyPost_ret (v:=.tuple #[.agg #[.slice At n ct,.slice As m cs],.int .i64 a,.int .i64 q]) (by simp [results,Tryz.results38,go_sem,z0,z1]) rfl ⟨ts,s,At,As,ct,cs,a,q,by rw [HN.out,HM.out],HRF.out,HT.out,HS.out,⟨HQA.out,HQ.out⟩,HBF.out⟩
def UseD2 (w:World) (E:Ending) (w':World):Prop:=∃ (ts:List Int) (s:Sts) (At As:Option Addr) (ct cs:Nat) (a v q:Int),E=.returned (.tuple #[.agg #[.slice At ts.length ct,.slice As s.len cs],.int .i64 a,.int .i64 v,.int .i64 q]) ∧
 ReadsP w' w.heap.size ts s At As ct cs∧ts.length≤1000∧s.size≤40000∧((-1≤a∧a≤100000)∧(-1≤v∧v≤60)∧(-1≤q∧q≤60))∧Below w.heap.size w w'
set_option maxRecDepth 100000 in
set_option maxHeartbeats 2000000 in
theorem drawMayAlias_any (nb cb:Nat) (Ab:Option Addr) (w:World) (hB:ByteV w w.heap.size nb Ab cb):Calls Tryz.prog 22 #[.slice Ab nb cb] w (UseD2 w):=by
 obtain ⟨w0,hw0⟩:∃ w0,w.alloc (.cells #[.slice none 0 0,.slice none 0 0] 26)=w0:=⟨_,rfl⟩
 have hb0:=(Below.refl w.heap.size w).alloc (Nat.le_refl _) (.cells #[.slice none 0 0,.slice none 0 0] 26)
 have X0:=Lib.hid (heap_alloc_new w (.cells #[.slice none 0 0,.slice none 0 0] 26))
 have hz0:w.heap.size+1≤(w.alloc (.cells #[.slice none 0 0,.slice none 0 0] 26)).heap.size:=Nat.le_of_eq (by simp)
 have HP:=Lib.hid (l10Case_any nb cb Ab (w.alloc (.cells #[.slice none 0 0,.slice none 0 0] 26)) (hB.below hb0 (by simp)))
 rw [hw0] at X0 hz0 HP
 have HB0:Hid (Below w.heap.size w w0):=by rw [← hw0];exact hb0
 have HBY:=Lib.hid hB
 clear hb0 hB
 go_enter Tryz.func22,Tryz.ntmps22
 go_upto_region 1 with (fail)
 clear hw0
 go_wp2_with fail
 refine HP.out.mono ?_
 rintro E w1 ⟨ts,s,At,As,ct,cs,a,v,rfl,hr1,ht,hs,ha,hb1⟩
 have hz1:=hb1.size
 obtain ⟨n,hn⟩:∃ n,ts.length=n:=⟨_,rfl⟩
 obtain ⟨m,hm⟩:∃ m,s.len=m:=⟨_,rfl⟩
 have HN:=Lib.hid hn
 have HM:=Lib.hid hm
 rw [hn,hm]
 have hba:=(Below.refl w1.heap.size w1).alloc (Nat.le_refl _) (.cells #[.slice At n ct,.slice As m cs] 26)
 have h2n:=heap_alloc_new w1 (.cells #[.slice At n ct,.slice As m cs] 26)
 have h2z:w1.heap.size+1≤(w1.alloc (.cells #[.slice At n ct,.slice As m cs] 26)).heap.size:=Nat.le_of_eq (by simp)
 obtain ⟨w2,hw2⟩:∃ w2,w1.alloc (.cells #[.slice At n ct,.slice As m cs] 26)=w2:=⟨_,rfl⟩
 have HR1:=Lib.hid hr1
 have N1:=Lib.hid (HB0.out.trans (hb1.mono (by omega)))
 have N2:=Lib.hid (N1.out.trans (hba.mono (by omega)))
 have X2:=Lib.hid ((hba.block w.heap.size (by omega)).trans ((hb1.block w.heap.size (by omega)).trans X0.out))
 have HBA:=Lib.hid hba
 rw [hw2] at N2 X2 h2n h2z HBA
 have Y2:=Lib.hid h2n
 have HT:=Lib.hid ht
 have HS:=Lib.hid hs
 have HQA:=Lib.hid ha
 clear hn hm hba h2n hr1 ht hs ha hb1 HP
 have hbd:Below w2.heap.size w2 w2.drew:=(Below.refl w2.heap.size w2).drew
 have HOA:=Lib.hid (l17Open_any nb cb Ab w2.drew (HBY.out.below (N2.out.trans (hbd.mono N2.out.size)) (N2.out.trans (hbd.mono N2.out.size)).size))
 have hbl:=((Below.refl w2.heap.size w2).alloc (Nat.le_refl _) (.cells #[.int .i64 2,.int .i64 1,.int .i64 3,.int .i64 4,.int .i64 5,.int .i64 0,.int .i64 (-1)] 3)).drew
 have HOB:=Lib.hid (l17Open_any nb cb Ab (w2.alloc (.cells #[.int .i64 2,.int .i64 1,.int .i64 3,.int .i64 4,.int .i64 5,.int .i64 0,.int .i64 (-1)] 3)).drew (HBY.out.below (N2.out.trans (hbl.mono N2.out.size)) (N2.out.trans (hbl.mono N2.out.size)).size))
 have HLB:=Lib.hid (heap_alloc_new w2 (.cells #[.int .i64 2,.int .i64 1,.int .i64 3,.int .i64 4,.int .i64 5,.int .i64 0,.int .i64 (-1)] 3))
 have hzl:(w2.alloc (.cells #[.int .i64 2,.int .i64 1,.int .i64 3,.int .i64 4,.int .i64 5,.int .i64 0,.int .i64 (-1)] 3)).drew.heap.size=w2.heap.size+1:=by simp [World.drew]
 have hzd:w2.drew.heap.size=w2.heap.size:=rfl
 have hza:(w2.alloc (.cells #[.int .i64 2,.int .i64 1,.int .i64 3,.int .i64 4,.int .i64 5,.int .i64 0,.int .i64 (-1)] 3)).heap.size=w2.heap.size+1:=by simp
 have HBD:=Lib.hid hbd
 have HBL:=Lib.hid hbl
 have hK0:PrK w.heap.size w1.heap.size (.slice At n ct) (.slice As m cs) w2:=prK_mk Y2.out X2.out
 have hK1:PrK w.heap.size w1.heap.size (.slice At n ct) (.slice As m cs) w2.drew:=hK0
 have hK2:PrK w.heap.size w1.heap.size (.slice At n ct) (.slice As m cs) (w2.alloc (.cells #[.int .i64 2,.int .i64 1,.int .i64 3,.int .i64 4,.int .i64 5,.int .i64 0,.int .i64 (-1)] 3)).drew:=prK_mk ((hbl.block w1.heap.size (by omega)).trans Y2.out) ((hbl.block w.heap.size (by omega)).trans X2.out)
 have hne:w.heap.size≠w1.heap.size:=by omega
 clear hbl hbd
 go_upto_region 2 with (fail)
 clear hw2
 go_region_held3 (PrK w.heap.size w1.heap.size (.slice At n ct) (.slice As m cs))
  (first | with_reducible exact hK0 | with_reducible exact hK1 | with_reducible exact hK2 | with_reducible exact hK3 | with_reducible exact hK4 | with_reducible exact hK5 | with_reducible exact prK_put hK5 hne)
  (first
   | (go_at_call 46;(with_reducible refine HOA.out.mono ?_);rintro E w3 ⟨rfl,hs3,hb3⟩;have hbt:=HBD.out.trans (hb3.mono (Nat.le_of_eq hzd.symm));have hz3:=hbt.size;have hsl:=hs3.lt;have hbl4:=(Below.refl w3.heap.size w3).alloc (Nat.le_refl _) (.cells #[.int .i64 2,.int .i64 1,.int .i64 3,.int .i64 4,.int .i64 5,.int .i64 0,.int .i64 (-1)] 3);have hK3:PrK w.heap.size w1.heap.size (.slice At n ct) (.slice As m cs) w3:=prK_mk ((hbt.block w1.heap.size (by omega)).trans Y2.out) ((hbt.block w.heap.size (by omega)).trans X2.out);have hK4:PrK w.heap.size w1.heap.size (.slice At n ct) (.slice As m cs) (w3.alloc (.cells #[.int .i64 2,.int .i64 1,.int .i64 3,.int .i64 4,.int .i64 5,.int .i64 0,.int .i64 (-1)] 3)):=prK_mk ((hbl4.block w1.heap.size (by omega)).trans ((hbt.block w1.heap.size (by omega)).trans Y2.out)) ((hbl4.block w.heap.size (by omega)).trans ((hbt.block w.heap.size (by omega)).trans X2.out));have HNM:Hid (Calls Tryz.prog 49 #[.pointer (some ⟨w2.heap.size,0,none⟩),.slice (some ⟨w3.heap.size,0,none⟩) 7 7] (w3.alloc (.cells #[.int .i64 2,.int .i64 1,.int .i64 3,.int .i64 4,.int .i64 5,.int .i64 0,.int .i64 (-1)] 3)) fun E w'=>∃ v∈([2,1,3,4,5,0,-1]:List Int),E=.returned (.int .i64 v)∧SrcV w' (w2.heap.size) (0+1)∧One (w2.heap.size) (w3.alloc (.cells #[.int .i64 2,.int .i64 1,.int .i64 3,.int .i64 4,.int .i64 5,.int .i64 0,.int .i64 (-1)] 3)) w'):=num_any w2.heap.size _ w3.heap.size [2,1,3,4,5,0,-1] (w3.alloc (.cells #[.int .i64 2,.int .i64 1,.int .i64 3,.int .i64 4,.int .i64 5,.int .i64 0,.int .i64 (-1)] 3)) (heap_alloc_new w3 _) (Nat.ne_of_lt hsl) (by decide) (by decide) (hs3.below hbl4) (by omega);have HBT:=Lib.hid (hbt.trans (hbl4.mono hz3)))
   | (go_at_call 46;(with_reducible refine HOB.out.mono ?_);rintro E w3 ⟨rfl,hs3,hb3⟩;have hbt:=HBL.out.trans (hb3.mono (by omega));have hz3:=hbt.size;have hsl:=hs3.lt;have hK4:PrK w.heap.size w1.heap.size (.slice At n ct) (.slice As m cs) w3:=prK_mk ((hbt.block w1.heap.size (by omega)).trans Y2.out) ((hbt.block w.heap.size (by omega)).trans X2.out);have hs4:SrcV w3 (w2.heap.size+1) 0:=(by have h9:=hs3;rw [hzl] at h9;exact h9);have HNM:Hid (Calls Tryz.prog 49 #[.pointer (some ⟨w2.heap.size+1,0,none⟩),.slice (some ⟨w2.heap.size,0,none⟩) 7 7] w3 fun E w'=>∃ v∈([2,1,3,4,5,0,-1]:List Int),E=.returned (.int .i64 v)∧SrcV w' (w2.heap.size+1) (0+1)∧One (w2.heap.size+1) w3 w'):=num_any (w2.heap.size+1) _ w2.heap.size [2,1,3,4,5,0,-1] w3 ((hb3.block w2.heap.size (by omega)).trans HLB.out) (by omega) (by decide) (by decide) hs4 (by omega);have HBT:=Lib.hid hbt)
   | (go_at_call 49;(with_reducible refine HNM.out.mono ?_);rintro E w7 ⟨q,hq,rfl,ks7,ko7⟩;have hbt7:=HBT.out.trans (ko7.below (by first | exact Nat.le_of_eq hzd.symm | omega));have hK5:PrK w.heap.size w1.heap.size (.slice At n ct) (.slice As m cs) w7:=prK_mk ((hbt7.block w1.heap.size (by omega)).trans Y2.out) ((hbt7.block w.heap.size (by omega)).trans X2.out)))
 all_goals
  have hX7:=(hbt7.block w.heap.size (by omega)).trans X2.out
  have HBT7:=HBA.out.trans (hbt7.mono (by omega))
  have HRF:=Lib.hid ((((HR1.out.below HBT7).setLow (o:=0) (x:=.slice At n ct) (show w.heap.size<w0.heap.size by omega)).setLow (o:=1) (x:=.slice As m cs) (show w.heap.size<w0.heap.size by omega)).mono (show w.heap.size≤w0.heap.size by omega))
  have HBF:=Lib.hid (((N2.out.trans (hbt7.mono N2.out.size)).setCell (p:=⟨w.heap.size,0,none⟩) (Nat.le_refl _) (.slice At n ct)).setCell (p:=⟨w.heap.size,1,none⟩) (Nat.le_refl _) (.slice As m cs))
  have HQ:Hid (-1≤q∧q≤60):=by
   simp only [List.mem_cons,List.not_mem_nil,or_false] at hq
   unfold Hid
   omega
  have z0:w7.cell? ⟨w.heap.size,0,none⟩=some (.slice none 0 0):=(cB hX7 0).trans rfl
  have z1:w7.cell? ⟨w.heap.size,1,none⟩=some (.slice none 0 0):=(cB hX7 1).trans rfl
  clear hq HBT7 hbt7 HNM HBT ks7 ko7 hX7 hK0 hK1 hK2 hK4 hK5
  go_wp2_with fail
  exact bodyPost_ret (v:=.tuple #[.agg #[.slice At n ct,.slice As m cs],.int .i64 a,.int .i64 v,.int .i64 q]) (by simp [results,Tryz.results22,go_sem,z0,z1]) rfl ⟨ts,s,At,As,ct,cs,a,v,q,by rw [HN.out,HM.out],HRF.out,HT.out,HS.out,⟨HQA.out.1,HQA.out.2,HQ.out⟩,HBF.out⟩
end Go.Proofs.YtofcdecpipgmjaaGreatDoor
