/-
  Whatever the bytes: two variables can reach the same cell exactly if some cell is among those of both,in either order,and the answer is the model's. Conditions: none.
-/
import Derived.Test.YtdcldcffnkhegaaGreatDoorQPuG
import Derived.Test.YtdcldcffnkhegaaGreatDoorQBcG
import Derived.Test.YtdcldcffnkhegaaGreatDoorQTrP
import Derived.Test.YtdcldcffnkhegaaGreatDoorQDrMayAlias
import Derived.Test.YtdcldcffnkhegaaGreatDoorQTMa
import Derived.Test.YtdcldcffnkhegaaGreatDoorQTrI
import Derived.Test.YtdcldcffnkhegaaGreatDoorQTab
import Derived.Test.YtdcldcffnkhegaaGreatDoorRows
import Derived.Test.YtdcldcffnkhegaaGreatDoorCards
import Derived.Test.YtdcldcffnkhegaaGreatDoorTie
import Derived.LaidMore
import Derived.SevenTiedAt
import Derived.WalkKit
import Derived.ProofKit
import Derived.OpenShut
import Derived.Lib.SmallJoins
import Derived.Deep.RegionHeld3
namespace Go.Proofs.YtdcldcffnkhegaaGreatDoor.fnMayAlias
open Go.ChangeShapes Go.WideShapes Go.ChangeAt Go.RowKit Go.Deep Go.Joins
set_option linter.unusedVariables false
theorem rowI_formN {w:World} {B n:Nat} {v:Value} {xs:List Int} (h:RowI w B v xs) (hn:xs.length=n):∃ A c,v=.slice A n c∧n≤c∧c≤maxLen:=by
 obtain ⟨A,c,h1,h2,h3,_⟩:=own_form h.own
 subst hn
 exact ⟨A,c,h1,h2,h3⟩
theorem rowI_form {w:World} {B:Nat} {v:Value} {xs:List Int} (h:RowI w B v xs):∃ A c,v=.slice A xs.length c∧xs.length≤c∧c≤maxLen:=rowI_formN h rfl
theorem ans_has {q:Nat} {ts:List Int} {s:Sts} {a v z:Int} {l3:List Int} (h3:AnsAt (tr.TrIn q ts v) (validB ts s) s a l3) (hz:z∈l3):∃ (k u:Nat),validB ts s=true∧0≤a∧a<((progPts s).length:Int)∧z=(k:Int)∧v=(u:Int)∧u<6∧tr.TrB q ts (progPts s) a.toNat u k:=by
 obtain ⟨hv,h0,h1,k,rfl,hk⟩:=(h3.mem z).1 hz
 obtain ⟨hv0,hv6,hb⟩:=(show tr.TrIn q ts v (progPts s) a.toNat k from hk)
 exact ⟨k,v.toNat,hv,h0,h1,rfl,by omega,by omega,hb⟩
theorem ans_some {R:List Nd→Nat→Nat→Prop} {ok:Bool} {s:Sts} {a:Int} {l3:List Int} (hne:l3.length≠0):∃ z,z∈l3:=by
 cases l3 with
 | nil=>exact absurd rfl hne
 | cons z _=>exact ⟨z,by simp⟩
theorem some_may {q:Nat} {ts:List Int} {s:Sts} {a v:Int} {l3 l:List Int} (h3:AnsAt (tr.TrIn q ts v) (validB ts s) s a l3) (hne:l3.length≠0) (h:AnsAt (flowSome.Rel ts) (validB ts s) s a l):v∈l:=by
 obtain ⟨z,hz⟩:=ans_some (R:=tr.TrIn q ts v) (ok:=validB ts s) (s:=s) (a:=a) hne
 obtain ⟨k,u,hv,h0,h1,rfl,rfl,hu,hb⟩:=ans_has h3 hz
 rw [h.mem]
 exact ⟨hv,h0,h1,u,rfl,hb.may⟩
theorem in_reach {ts:List Int} {s:Sts} {a v:Int} {l:List Int} (h:AnsAt (tr.TrIn 0 ts v) (validB ts s) s a l) (z:Int):z∈l↔∃ k:Nat,z=(k:Int)∧tr.reachT ts s a v k:=by
 rw [h.mem]
 constructor
 ·rintro ⟨hv,h0,h1,k,rfl,g0,g6,hb⟩
  exact ⟨k,rfl,g0,g6,hv,h0,h1,hb⟩
 ·rintro ⟨k,rfl,g0,g6,hv,h0,h1,hb⟩
  exact ⟨hv,h0,h1,k,rfl,g0,g6,hb⟩
theorem may_sym (ts:List Int) (s:Sts) (a v u:Int):tr.mayB ts s a u v=tr.mayB ts s a v u :=
 tr.mayB_of (tr.mayB_iff.trans ⟨fun ⟨l,h1,h2⟩=>⟨l,h2,h1⟩,fun ⟨l,h1,h2⟩=>⟨l,h2,h1⟩⟩)
theorem may_self {ts:List Int} {s:Sts} {a v:Int} {l:List Int} (h:AnsAt (tr.TrIn 0 ts v) (validB ts s) s a l):tr.mayB ts s a v v=decide (0<l.length):=by
 refine tr.mayB_of ?_
 rw [decide_eq_true_eq]
 constructor
 ·intro hp
  obtain ⟨z,hz⟩:=List.exists_mem_of_length_pos hp
  obtain ⟨k,-,hk⟩:=(in_reach h z).1 hz
  exact ⟨k,hk,hk⟩
 ·rintro ⟨k,hk,-⟩
  exact List.length_pos_of_mem ((in_reach h (k:Int)).2 ⟨k,rfl,hk⟩)
theorem may_any {ts:List Int} {s:Sts} {a v u:Int} {l l':List Int} (h:AnsAt (tr.TrIn 0 ts v) (validB ts s) s a l) (h':AnsAt (tr.TrIn 0 ts u) (validB ts s) s a l'):anyB (fun i=>match l[i]? with | some z=>decide (z∈l') | none=>false) l.length=tr.mayB ts s a v u:=by
 symm
 refine tr.mayB_of ?_
 rw [anyB_iff]
 constructor
 ·rintro ⟨i,hi,hx⟩
  rw [List.getElem?_eq_getElem hi] at hx
  have hx:=of_decide_eq_true hx
  obtain ⟨k,hk,hr⟩:=(in_reach h' _).1 hx
  obtain ⟨k',hk',hr'⟩:=(in_reach h _).1 (List.getElem_mem hi)
  obtain rfl:k=k':=by omega
  exact ⟨k,hr',hr⟩
 ·rintro ⟨k,h1,h2⟩
  obtain ⟨i,hi,he⟩:=List.getElem_of_mem ((in_reach h (k:Int)).2 ⟨k,rfl,h1⟩)
  refine ⟨i,hi,?_⟩
  rw [List.getElem?_eq_getElem hi,he]
  exact decide_eq_true ((in_reach h' (k:Int)).2 ⟨k,rfl,h2⟩)
set_option maxRecDepth 100000 in
set_option maxHeartbeats 2000000 in
theorem walk (n0 c0:Nat) (A0:Option Addr) (W:World) (hB:ByteV W W.heap.size n0 A0 c0) (hTab:TabAt 0 Lib.deBruijn64tab W) (hg:0<W.heap.size) :
  Calls Tryz.prog 4 #[.slice A0 n0 c0] W fun e w'=>e=.returned (.bool true)∧Below W.heap.size W w':=by
 have hnc:=hB.1
 have hcm:=hB.2.1
 unfold maxLen at hcm
 by_cases hn:1048576<n0
 ·go_enter Tryz.func4,Tryz.ntmps4
  go_wp2_with fail
  go_ret
  exact ⟨rfl,Below.refl _ _⟩
 have e1:decide (1048576<(n0:Int))=false:=decide_eq_false (by omega)
 have HD:=Lib.hid (drawMayAlias_any n0 c0 A0 W hB)
 clear hB
 go_enter Tryz.func4,Tryz.ntmps4
 go_wp2_with fail
 refine HD.out.mono ?_
 rintro E w1 ⟨ts,s,At,As,ct,cs,a,v,u,rfl,hr1,ht1,hs1,hq,hb1⟩
 have h1s:=hb1.size
 obtain ⟨n,hn⟩:∃ n,ts.length=n:=⟨_,rfl⟩
 obtain ⟨m,hm⟩:∃ m,s.len=m:=⟨_,rfl⟩
 rw [hn,hm]
 have hn9:n≤1000:=by omega
 have HN:=Lib.hid hn
 have HM:=Lib.hid hm
 have HSZ:=Lib.hid hs1
 have hba:=(Below.refl w1.heap.size w1).alloc (Nat.le_refl _) (.cells #[.slice At n ct,.slice As m cs] 26)
 have h2n:=heap_alloc_new w1 (.cells #[.slice At n ct,.slice As m cs] 26)
 have h2z:w1.heap.size+1≤(w1.alloc (.cells #[.slice At n ct,.slice As m cs] 26)).heap.size:=Nat.le_of_eq (by simp)
 obtain ⟨w2,hw2⟩:∃ w2,w1.alloc (.cells #[.slice At n ct,.slice As m cs] 26)=w2:=⟨_,rfl⟩
 have T2:=Lib.hid (hr1.1.below hba (Nat.le_trans (Nat.le_refl _) hba.size))
 have R2:=Lib.hid (hr1.2.below hba (Nat.le_trans (Nat.le_refl _) hba.size))
 have B2:=Lib.hid (hb1.trans (hba.mono h1s))
 rw [hw2] at T2 R2 B2 h2n h2z
 have P2:=Lib.hid h2n
 clear hn hm hba hr1 ht1 hs1 hb1 h2n HD
 obtain ⟨PB,hPB⟩:∃ PB,w1.heap.size=PB:=⟨_,rfl⟩
 rw [hPB] at P2 h2z h1s
 have hPW:W.heap.size≤PB:=h1s
 have hP2:PB<w2.heap.size:=h2z
 obtain ⟨ok,hok⟩:∃ ok,tr.mayB ts s a v u=ok:=⟨_,rfl⟩
 have HOK:=Lib.hid hok
 have HOK2:Hid (tr.mayB ts s a u v=ok):=(may_sym ts s a v u).trans hok
 have hoo:(ok != ok)=false:=by simp
 have hoe:(ok==ok)=true:=by simp
 clear hok
 have HC:=tr.implMayAlias_any ts s At As ct cs a v u w2 T2.out R2.out (tab_below hTab hg B2.out) (by have:=B2.out.size;omega)
 rw [HN.out,HM.out,HOK.out] at HC
 replace HC:=Lib.hid HC
 have p0:w2.cell? ⟨PB,0,none⟩=some (.slice At n ct):=(cB P2.out 0).trans rfl
 have p1:w2.cell? ⟨PB,1,none⟩=some (.slice As m cs):=(cB P2.out 1).trans rfl
 go_upto_region 4 with (fail)
 clear hw2 hPB
 go_wp2_with fail
 refine HC.out.mono ?_
 rintro E w3 ⟨rfl,hb3⟩
 have hz3:=hb3.size
 have T3:=Lib.hid (T2.out.below hb3 hz3)
 have R3:=Lib.hid (R2.out.below hb3 hz3)
 have P3:=Lib.hid ((hb3.block PB (by omega)).trans P2.out)
 have B3:=Lib.hid (B2.out.trans (hb3.mono (by omega)))
 have hP3:PB<w3.heap.size:=by omega
 clear hb3 HC p0 p1
 have HC:=tr.specMayAlias_any ts s At As ct cs a v u w3 (by have:=HSZ.out;omega) T3.out R3.out
 rw [HN.out,HM.out,HOK.out] at HC
 replace HC:=Lib.hid HC
 have p0:w3.cell? ⟨PB,0,none⟩=some (.slice At n ct):=(cB P3.out 0).trans rfl
 have p1:w3.cell? ⟨PB,1,none⟩=some (.slice As m cs):=(cB P3.out 1).trans rfl
 go_wp2_with fail
 refine HC.out.mono ?_
 rintro E w4 ⟨rfl,hb4⟩
 have hz4:=hb4.size
 have T4:=Lib.hid (T3.out.below hb4 hz4)
 have R4:=Lib.hid (R3.out.below hb4 hz4)
 have P4:=Lib.hid ((hb4.block PB (by omega)).trans P3.out)
 have B4:=Lib.hid (B3.out.trans (hb4.mono (by omega)))
 have hP4:PB<w4.heap.size:=by omega
 clear hb4 HC p0 p1
 have HC:=tr.implMayAlias_any ts s At As ct cs a u v w4 T4.out R4.out (tab_below hTab hg B4.out) (by have:=B4.out.size;omega)
 rw [HN.out,HM.out,HOK2.out] at HC
 replace HC:=Lib.hid HC
 have p0:w4.cell? ⟨PB,0,none⟩=some (.slice At n ct):=(cB P4.out 0).trans rfl
 have p1:w4.cell? ⟨PB,1,none⟩=some (.slice As m cs):=(cB P4.out 1).trans rfl
 go_wp2_with fail
 refine HC.out.mono ?_
 rintro E w5 ⟨rfl,hb5⟩
 have hz5:=hb5.size
 have T5:=Lib.hid (T4.out.below hb5 hz5)
 have R5:=Lib.hid (R4.out.below hb5 hz5)
 have P5:=Lib.hid ((hb5.block PB (by omega)).trans P4.out)
 have B5:=Lib.hid (B4.out.trans (hb5.mono (by omega)))
 have hP5:PB<w5.heap.size:=by omega
 clear hb5 HC p0 p1
 have HC:=tr.implCellsOf_any ts s At As ct cs a v w5 T5.out R5.out (tab_below hTab hg B5.out) (by have:=B5.out.size;omega)
 rw [HN.out,HM.out] at HC
 replace HC:=Lib.hid HC
 have p0:w5.cell? ⟨PB,0,none⟩=some (.slice At n ct):=(cB P5.out 0).trans rfl
 have p1:w5.cell? ⟨PB,1,none⟩=some (.slice As m cs):=(cB P5.out 1).trans rfl
 go_wp2_with fail
 refine HC.out.mono ?_
 rintro E w6 ⟨v6,l6,rfl,hrow6,hans6,hb6⟩
 obtain ⟨q6,hl6⟩:∃ q,l6.length=q:=⟨_,rfl⟩
 obtain ⟨A6,c6,hv6,hle6,hmx6⟩:=rowI_formN hrow6 hl6
 have hq6:q6≤64:=by rw [← hl6];exact hans6.length
 have HL6:=Lib.hid hl6
 have HA6:=Lib.hid hans6
 clear hl6 hans6
 subst hv6
 unfold maxLen at hmx6
 have G6:=Lib.hid hrow6.intsV
 have hz6:=hb6.size
 have T6:=Lib.hid (T5.out.below hb6 hz6)
 have R6:=Lib.hid (R5.out.below hb6 hz6)
 have P6:=Lib.hid ((hb6.block PB (by omega)).trans P5.out)
 have B6:=Lib.hid (B5.out.trans (hb6.mono (by omega)))
 have hP6:PB<w6.heap.size:=by omega
 clear hrow6 hb6 HC p0 p1
 have HC:=tr.implCellsOf_any ts s At As ct cs a u w6 T6.out R6.out (tab_below hTab hg B6.out) (by have:=B6.out.size;omega)
 rw [HN.out,HM.out] at HC
 replace HC:=Lib.hid HC
 have p0:w6.cell? ⟨PB,0,none⟩=some (.slice At n ct):=(cB P6.out 0).trans rfl
 have p1:w6.cell? ⟨PB,1,none⟩=some (.slice As m cs):=(cB P6.out 1).trans rfl
 go_wp2_with fail
 refine HC.out.mono ?_
 rintro E w7 ⟨v7,l7,rfl,hrow7,hans7,hb7⟩
 obtain ⟨q7,hl7⟩:∃ q,l7.length=q:=⟨_,rfl⟩
 obtain ⟨A7,c7,hv7,hle7,hmx7⟩:=rowI_formN hrow7 hl7
 have hq7:q7≤64:=by rw [← hl7];exact hans7.length
 have HL7:=Lib.hid hl7
 have HA7:=Lib.hid hans7
 clear hl7 hans7
 subst hv7
 unfold maxLen at hmx7
 have G7:=Lib.hid hrow7.intsV
 have hz7:=hb7.size
 have T7:=Lib.hid (T6.out.below hb7 hz7)
 have R7:=Lib.hid (R6.out.below hb7 hz7)
 have P7:=Lib.hid ((hb7.block PB (by omega)).trans P6.out)
 have B7:=Lib.hid (B6.out.trans (hb7.mono (by omega)))
 have hP7:PB<w7.heap.size:=by omega
 have G6:=Lib.hid (G6.out.below hb7 hz7)
 clear hrow7 hb7 HC p0 p1
 obtain ⟨f,hf⟩:∃ f:Nat→Bool,(fun i:Nat=>match l6[i]? with | some z=>decide (z∈l7) | none=>false)=f:=⟨_,rfl⟩
 have hany:=may_any HA6.out HA7.out
 rw [hf,HL6.out,HOK.out] at hany
 have HFN:=Lib.hid hany
 have HF:Hid (∀ i z,l6[i]?=some z→f i=decide (z∈l7)):=fun i z hz=>by rw [← hf];simp only [hz]
 clear hf hany
 go_wp2_with fail
 go_loopw [10,11] (fun bv i wr=>∃ x:Nat,x≤q6∧bv=.bool (anyB f x)∧i=.int .i64 x∧Below w7.heap.size w7 wr) (fun _ i _=>q6-(intOf i).toNat)
 case atStart=>exact ⟨0,Nat.zero_le _,rfl,rfl,Below.refl _ _⟩
 case round =>
  obtain ⟨k,hk,rfl,rfl,hb⟩:=hrel
  have hzr:=hb.size
  have Tr:=Lib.hid (T7.out.below hb hzr)
  have Rr:=Lib.hid (R7.out.below hb hzr)
  have Pr:=Lib.hid ((hb.block PB (by omega)).trans P7.out)
  have Br:=Lib.hid (B7.out.trans (hb.mono (by omega)))
  have hPr:PB<wr.heap.size:=by omega
  have G6:=Lib.hid (G6.out.below hb hzr)
  have G7:=Lib.hid (G7.out.below hb hzr)
  obtain ⟨bb,hbv⟩:∃ bb,anyB f k=bb:=⟨_,rfl⟩
  have HBV:=Lib.hid hbv
  rw [hbv]
  clear hbv
  by_cases hlt:k<q6
  ·have f1:IntKind.i64.wrap ((k:Int)+1)=(k:Int)+1:=IntWalk.i64_in _ (by omega)
   obtain ⟨b0,z,rfl,-,hbb,hx,hc⟩:=G6.out.elem (k:=k) (by rw [HL6.out];exact hlt)
   have HFX:=Lib.hid (HF.out k z hx)
   clear hx
   cases bb
   ·obtain ⟨bz,hbz⟩:∃ bz,decide (z∈l7)=bz:=⟨_,rfl⟩
    have HNEW:Hid (anyB f (k+1)=bz):=Lib.hid (by rw [anyB_succ,HBV.out,HFX.out,hbz];rfl)
    have HCI:=bcIn_any l7 z A7 c7 wr G7.out
    rw [HL7.out,hbz] at HCI
    replace HCI:=Lib.hid HCI
    clear hbz
    go_wp2_with fail
    refine HCI.out.mono ?_
    rintro E w10 ⟨rfl,hb10⟩
    have hB10:=hb.trans (hb10.mono hzr)
    clear hb10 HCI
    go_wp2_with fail
    go_roundw
    case rel=>exact ⟨k+1,by omega,by rw [HNEW.out],by go_num,hB10⟩
    case measure=>simp [intOf];omega
   ·have hnew:anyB f (k+1)=true:=by rw [anyB_succ,HBV.out];rfl
    go_wp2_with fail
    go_roundw
    case rel=>exact ⟨k+1,by omega,by rw [hnew],by go_num,hb⟩
    case measure=>simp [intOf];omega
  ·have hk':k=q6:=by omega
   have hbe:bb=ok:=by rw [← HBV.out,hk'];exact HFN.out
   subst hbe
   have hkq:decide ((k:Int)<(q6:Int))=false:=decide_eq_false (by omega)
   obtain ⟨bo,hbo⟩:∃ bo,decide (0<q6)=bo:=⟨_,rfl⟩
   have hbi:decide ((0:Int)<(q6:Int))=bo:=by rw [← hbo];exact decide_eq_decide.mpr (by omega)
   have HSF:Hid (tr.mayB ts s a v v=bo):=Lib.hid (by rw [may_self HA6.out,HL6.out];exact hbo)
   have hbb2:(bo==bo)=true:=by simp
   have HBO:=Lib.hid hbo
   clear hbo
   have HC:=tr.implMayAlias_any ts s At As ct cs a v v wr Tr.out Rr.out (tab_below hTab hg Br.out) (by have:=Br.out.size;omega)
   rw [HN.out,HM.out,HSF.out] at HC
   replace HC:=Lib.hid HC
   have p0:wr.cell? ⟨PB,0,none⟩=some (.slice At n ct):=(cB Pr.out 0).trans rfl
   have p1:wr.cell? ⟨PB,1,none⟩=some (.slice As m cs):=(cB Pr.out 1).trans rfl
   go_wp2_with fail
   refine HC.out.mono ?_
   rintro E w10 ⟨rfl,hb10⟩
   have B10:=Lib.hid (Br.out.trans (hb10.mono (by have:=Br.out.size;omega)))
   clear hb10 HC p0 p1
   go_wp2_with fail
   go_ret
   exact ⟨by simp [HBO.out],B10.out⟩
theorem cellsByte:Tryz.prog.cellsOf 5=1:=by kernel_rfl
theorem read_bytes {H:Type} {enc:TypeId × Value→H} {W:World} {spare:Nat→Bool} {held:Bool} {fuel:Nat} {v:Value} {x:DataW H × List MemPlace} (h:DataW.trod enc Tryz.prog W 0 spare held fuel 22 [v]=some x) :
  ∃ (n:Nat) (A:Option Addr) (c:Nat),v=.slice A n c∧ByteV W W.heap.size n A c:=by
 rcases DataW.trod_slice Tryz.underlying22 h with ⟨hcs,_⟩ | ⟨a,len,cap,elems,rest,n,_,hcs,_,_,hl,hm,hlen,hel,_⟩
 ·injection hcs with hcs _
  exact ⟨0,none,0,hcs,by simp,by simp [maxLen],fun h=>absurd h (by simp)⟩
 ·injection hcs with hcs _
  have hex:∀ i,i<len→∃ z:Int,W.cell? (a.add i)=some (.int .u8 z)∧0≤z∧z≤255:=by
   intro i hi
   have h1:=hel i hi
   rw [cellsByte,Nat.mul_one,List.getElem?_eq_getElem (by omega)] at h1
   obtain ⟨cs',hc,ht⟩:=Option.bind_eq_some_iff.1 h1
   obtain ⟨_,_,hat⟩:=World.cells?_some hc
   obtain ⟨z,rfl,_,hwf⟩:=DataW.trod_int Tryz.underlying5 ht
   have hz:0≤z∧z≤255:=by simpa [Lit.wf,IntKind.min,IntKind.max,IntKind.signed,IntKind.bits] using hwf
   exact ⟨z,by simpa [Addr.add] using hat 0 (by omega),hz.1,hz.2⟩
  refine ⟨len,some a,cap,hcs,hl,hm,fun h0=>⟨a,rfl,?_,hex⟩⟩
  obtain ⟨z,hz,_⟩:=hex 0 h0
  have:=World.block_lt_of_cell? W _ hz
  rwa [block_add] at this
theorem own:ownKnob Tryz.prog.godebug=none:=by kernel_rfl
theorem laidOut:laidOutB Tryz.prog=true:=by kernel_rfl
set_option maxRecDepth 100000 in
theorem lifted (os:Os) (started:os.Started) (H:Type) (enc:TypeId × Value→H) :
  ReturnsInHanded {} Tryz.checked os 4 .any (fun w args=>(Rows.fnMayAliasSpec.pre enc Tryz.prog Tryz.f4 [] false w args∧laidMetH Tryz.prog listed w)∧sizedMet enc Tryz.prog Tryz.f4 (OpenSpec.ofChange Rows.fnMayAliasSpec) false w args)
   (Rows.fnMayAliasSpec.post enc Tryz.prog Tryz.f4 false true false false):=by
 refine returnsInHanded_of_change_and (C:=Tryz.checked) (X:=fun w _=>laidMetH Tryz.prog listed w) (fun _ _ _ hh h=>h.of_heap hh) own started (by kernel_rfl) Tryz.func4
  (ChangeSpec.witness_shaped (enc:=enc) (C:=Tryz.checked) (os:=os) (X:=fun w _=>laidMetH Tryz.prog listed w) false (World.doorLaid Tryz.prog 400 os) #[.slice none 0 0] 8 rfl (World.shaped_of_RefB (by kernel_rfl) (by kernel_rfl)) (by kernel_rfl) (by kernel_rfl) (by kernel_rfl) (door_met os _)) ?_
 intro W base args ds gs before hval0 hW _ _ hL _
 have hval:∀ (j:Nat) t v,Tryz.f4.params[j]?=some t→args[j]?=some v→Value.okWide Tryz.prog W .any base t v:=hval0
 have hW':=hW
 obtain ⟨p,q,hA0,hV,rfl,hfz,hnd⟩:=hW
 have hA:DataW.TrodAll enc Tryz.prog W 0 (fun _=>true) true Tryz.f4.params.toList args.toList ds p:=hA0
 rw [Tryz.params4] at hA hval
 obtain ⟨v0,vs0,d0,ds0,p0,q0,hargs,rfl,rfl,h0,r0⟩:=trodAll_cons hA
 obtain ⟨rfl,rfl,rfl⟩:=trodAll_nil r0
 obtain rfl:args=#[v0]:=by cases args;simp_all
 obtain ⟨rfl,rfl⟩:=trodVars_none hV
 have k0:=h0
 have lt0:∀ x∈p0,x.block<W.heap.size:=by obtain ⟨m,hm⟩:=k0;exact DataW.trod_lt m _ _ _ hm
 obtain ⟨a0,len0,cap0,rfl⟩:=okWide_slice Tryz.underlying22 (hval 0 22 v0 rfl rfl)
 obtain ⟨fu0,hf0⟩:=h0
 obtain ⟨nb0,At0,ct0,hv0,hT0⟩:=read_bytes hf0
 injection hv0 with hv0 hv0' hv0''
 subst hv0 hv0' hv0''
 obtain ⟨hTab,hTabLt⟩:=tab_of_laid hL
 clear hA0 hval0
 simp only [List.append_nil] at hW'
 refine (walk _ _ _ W hT0 hTab hTabLt).mono fun e W' ⟨he,bel⟩=>?_
 subst he
 exact ⟨_,rfl,_,_,_,[],_,[],hW',trodAll_mk1 (shut_bool Tryz.underlying4 _),(trodAll_cons_mk (Below.trod laidOut (by kernel_rfl) (of_decide_eq_true (by kernel_rfl)) k0 bel lt0) trodAll_mk0),rfl,bel.frame _,fun h=>by cases h⟩
theorem over:Rows.fnMayAliasRow.holds Tryz.pinned (OpenSpec.ofChange Rows.fnMayAliasSpec) :=
 OpenClaim.holds_of_wide 4 Tryz.f4 rfl rfl rfl rfl rfl rfl rfl ⟨rfl,rfl,rfl,rfl,rfl⟩ rfl rfl rfl rfl rfl (by kernel_rfl) Tryz.func4 (by kernel_rfl)
  (of_decide_eq_true (by kernel_rfl)) (by unfold Func.isWrapper;first | (rw [if_pos (by decide +kernel)];kernel_rfl) | (rw [if_neg (by decide +kernel)];exact ⟨rfl,rfl⟩))
  (fun os started H enc _=>lifted os started H enc)
set_option maxRecDepth 100000 in
theorem proved:Rows.FnMayAliasCardSaid :=
 Claim7.holds_tied_plain_at .later [] [.data] true (true, "a8cee4c2774af7e9bec96c1cf39a97fded44048fc6d579c08f505256ae79d544") false
  over (fun _ h=>by cases h) (by kernel_rfl) (fun _ h=>by cases h) fnMayAlias_row_tie rfl ⟨rfl,rfl⟩ (by kernel_rfl) rfl
  (fun f fn hf hfn=>by
   obtain rfl:f=4:=Option.some.inj ((show Tryz.prog.funcNamed "loop.example/borrowcheck/laws.FnMayAlias" = some 4 by kernel_rfl).symm.trans hf) |>.symm
   obtain rfl:fn=Tryz.f4:=(Option.some.inj (Tryz.func4.symm.trans hfn)).symm
   exact ⟨by kernel_rfl,fun j t ht=>by
    rw [Tryz.params4] at ht
    have hm:t∈[22]:=by simpa using Array.mem_of_getElem? ht
    have hall:([22].all fun u=>!Tryz.prog.wantsStandIn u)=true:=by kernel_rfl
    exact (show Tryz.prog.wantsStandIn t=false by simpa using List.all_eq_true.1 hall t hm)⟩)
  (by kernel_rfl)
#print axioms proved
end Go.Proofs.YtdcldcffnkhegaaGreatDoor.fnMayAlias
