/-
  Whatever the bytes: a point uses a value exactly if the point that set it is among the setters of the variable. Conditions: none.
-/
import Derived.Test.YtdcldcffnkhegaaGreatDoorQPuG
import Derived.Test.YtdcldcffnkhegaaGreatDoorQBcG
import Derived.Test.YtdcldcffnkhegaaGreatDoorQTrP
import Derived.Test.YtdcldcffnkhegaaGreatDoorQDrUsersOf
import Derived.Test.YtdcldcffnkhegaaGreatDoorQTrU
import Derived.Test.YtdcldcffnkhegaaGreatDoorQTSu
import Derived.Test.YtdcldcffnkhegaaGreatDoorQTrI
import Derived.Test.YtdcldcffnkhegaaGreatDoorQUsG
import Derived.Test.YtdcldcffnkhegaaGreatDoorQPoX
import Derived.Test.YtdcldcffnkhegaaGreatDoorQLiveI
import Derived.Test.YtdcldcffnkhegaaGreatDoorQTab
import Derived.Test.YtdcldcffnkhegaaGreatDoorRows
import Derived.Test.YtdcldcffnkhegaaGreatDoorCards
import Derived.Test.YtdcldcffnkhegaaGreatDoorTie
import Derived.LaidMore
import Derived.SevenTiedAt
import Derived.WalkKit
import Derived.ProofKit
import Derived.OpenShut
import Derived.Lib.SmallJoins
import Derived.Deep.RegionHeld3
namespace Go.Proofs.YtdcldcffnkhegaaGreatDoor.fnUsersOf
open Go.ChangeShapes Go.WideShapes Go.ChangeAt Go.RowKit Go.Deep Go.Joins
set_option linter.unusedVariables false
theorem rowI_formN {w:World} {B n:Nat} {v:Value} {xs:List Int} (h:RowI w B v xs) (hn:xs.length=n):∃ A c,v=.slice A n c∧n≤c∧c≤maxLen:=by
 obtain ⟨A,c,h1,h2,h3,_⟩:=own_form h.own
 subst hn
 exact ⟨A,c,h1,h2,h3⟩
theorem rowI_form {w:World} {B:Nat} {v:Value} {xs:List Int} (h:RowI w B v xs):∃ A c,v=.slice A xs.length c∧xs.length≤c∧c≤maxLen:=rowI_formN h rfl
theorem points_len9 (ok:Bool) (s:Sts) (h:s.size≤40000):(pointsB ok s).length≤100000:=by
 unfold pointsB
 split
 ·rw [progPts_len]
  have:=s.npts_le
  omega
 ·simp
theorem ans_has {q:Nat} {ts:List Int} {s:Sts} {a v z:Int} {l3:List Int} (h3:AnsAt (tr.TrIn q ts v) (validB ts s) s a l3) (hz:z∈l3):∃ (k u:Nat),validB ts s=true∧0≤a∧a<((progPts s).length:Int)∧z=(k:Int)∧v=(u:Int)∧u<6∧tr.TrB q ts (progPts s) a.toNat u k:=by
 obtain ⟨hv,h0,h1,k,rfl,hk⟩:=(h3.mem z).1 hz
 obtain ⟨hv0,hv6,hb⟩:=(show tr.TrIn q ts v (progPts s) a.toNat k from hk)
 exact ⟨k,v.toNat,hv,h0,h1,rfl,by omega,by omega,hb⟩
theorem ans_some {R:List Nd→Nat→Nat→Prop} {ok:Bool} {s:Sts} {a:Int} {l3:List Int} (hne:l3.length≠0):∃ z,z∈l3:=by
 cases l3 with
 | nil=>exact absurd rfl hne
 | cons z _=>exact ⟨z,by simp⟩
theorem some_may {q:Nat} {ts:List Int} {s:Sts} {a v:Int} {l3 l:List Int} (h3:AnsAt (tr.TrIn q ts v) (validB ts s) s a l3) (hne:l3.length≠0) (h:AnsAt (flowSome.Rel ts) (validB ts s) s a l):v∈l:=by
 obtain ⟨z,hz⟩:=ans_some (R:=tr.TrIn q ts v) (ok:=validB ts s) (s:=s) (a:=a) hne
 obtain ⟨k,u,hv,h0,h1,rfl,rfl,hu,hb⟩:=ans_has h3 hz
 rw [h.mem]
 exact ⟨hv,h0,h1,u,rfl,hb.may⟩
theorem set_next {s:Sts} {j:Nat} {d:Nd} (hd:(progPts s)[j]?=some d) (hop:1≤d.op∧d.op≤6):∃ z:Nat,d.next[0]?=some (z:Int)∧0<d.next.length∧z<(progPts s).length∧eN (progPts s) j z:=by
 have h1:1≤d.next.length:=by
  by_cases hj:j<(s.pts 0).length
  ·have hd':=hd
   unfold progPts at hd'
   rw [List.getElem?_append_left hj] at hd'
   exact (s.pts_ok 0 d (List.mem_of_getElem? hd')).1
  ·have hd':=hd
   unfold progPts at hd'
   rw [List.getElem?_append_right (by omega)] at hd'
   have hm:=List.mem_of_getElem? hd'
   simp only [List.mem_cons,List.not_mem_nil,or_false] at hm
   subst hm
   exact absurd hop.2 (by decide)
 obtain ⟨z,hz⟩:∃ z,d.next[0]?=some z:=⟨d.next[0],List.getElem?_eq_getElem (by omega)⟩
 have hzm:=List.mem_of_getElem? hz
 obtain ⟨h0,h2⟩:=prog_next hd hzm
 obtain ⟨c,rfl⟩:=Int.eq_ofNat_of_zero_le h0
 exact ⟨c,hz,by omega,by omega,mem_nextN_at hd hzm⟩
theorem own_facts {ts:List Int} {s:Sts} {a:Int} {q:Int} (hs:setByI (validB ts s) s a=q) (hq:¬ q<0):∃ (j u z:Nat) (d:Nd),a=(j:Int)∧q=(u:Int)∧validB ts s=true∧(progPts s)[j]?=some d∧setI d=(u:Int)∧u<6∧d.next[0]?=some (z:Int)∧0<d.next.length∧z<(progPts s).length∧eN (progPts s) j z:=by
 by_cases hc:validB ts s=true∧0≤a∧a<((progPts s).length:Int)
 ·obtain ⟨hv,h0,h1⟩:=hc
  obtain ⟨j,rfl⟩:∃ j:Nat,a=(j:Int):=⟨a.toNat,by omega⟩
  have hj:j<(progPts s).length:=by omega
  have hd:=List.getElem?_eq_getElem hj
  rw [hv,setByI_yes hd] at hs
  obtain ⟨u,rfl⟩:∃ u:Nat,q=(u:Int):=⟨q.toNat,by omega⟩
  have hA:=progPts_allTyped hv
  have h6:=typed_set (hA.2 _ _ hd) _ (by omega) hs
  obtain ⟨o1,o6,-⟩:=tr.set_op hs
  obtain ⟨z,z1,z2,z3,z4⟩:=set_next hd ⟨o1,o6⟩
  exact ⟨j,u,z,_,rfl,rfl,hv,hd,hs,by have:=hA.1;omega,z1,z2,z3,z4⟩
 ·rw [setByI_no hc] at hs
  omega
theorem no_user {ts:List Int} {s:Sts} {a q:Int} {l3:List Int} (hs:setByI (validB ts s) s a=q) (hq:q<0) (h3:AnsAt (tr.UserB ts) (validB ts s) s a l3):l3.length=0:=by
 cases l3 with
 | nil=>rfl
 | cons z r =>
  obtain ⟨hv,h0,h1,k,rfl,hk⟩:=(h3.mem z).1 (by simp)
  obtain ⟨j,rfl⟩:∃ j:Nat,a=(j:Int):=⟨a.toNat,by omega⟩
  have hd:=List.getElem?_eq_getElem (show j<(progPts s).length by omega)
  rw [hv,setByI_yes hd] at hs
  exact absurd hk (tr.userB_none (by rw [Int.toNat_natCast];exact hd) (by omega))
theorem user_in {ts:List Int} {s:Sts} {j u k:Nat} {d:Nd} {l3:List Int} (hv:validB ts s=true) (hd:(progPts s)[j]?=some d) (hs:setI d=(u:Int)) (hu:u<6) (hut:u<ts.length) (hk:k<(progPts s).length) (h3:AnsAt (tr.UserB ts) (validB ts s) s (j:Int) l3) {l:List Int} (h:AnsAt (tr.TrIn 1 ts (u:Int)) (validB ts s) s (k:Int) l) :
  decide ((k:Int)∈l3)=(decide (useOfI (validB ts s) ts s k u≠0) && decide ((j:Int)∈l)):=by
 have hdk:=List.getElem?_eq_getElem hk
 have hu1:useOfI (validB ts s) ts s k u=useI ts ((progPts s)[k]) (u:Int):=by rw [hv,useOfI_yes hdk hut]
 have hj:=(List.getElem?_eq_some_iff.mp hd).1
 rw [hu1,Bool.eq_iff_iff,Bool.and_eq_true,decide_eq_true_eq,decide_eq_true_eq,decide_eq_true_eq,h3.mem,h.mem]
 constructor
 ·rintro ⟨-,-,-,k',hk',hb⟩
  obtain rfl:k=k':=by omega
  rw [Int.toNat_natCast] at hb
  obtain ⟨h7,h8⟩:=(tr.userB_iff hd hs hu hdk).mp hb
  exact ⟨h7,hv,by omega,by omega,j,rfl,by omega,by omega,by rw [Int.toNat_natCast,Int.toNat_natCast];exact h8⟩
 ·rintro ⟨h7,-,-,-,j',hj',-,-,hb⟩
  obtain rfl:j=j':=by omega
  rw [Int.toNat_natCast,Int.toNat_natCast] at hb
  exact ⟨hv,by omega,by omega,k,rfl,by rw [Int.toNat_natCast];exact (tr.userB_iff hd hs hu hdk).mpr ⟨h7,hb⟩⟩
theorem user_zero {ts:List Int} {s:Sts} {j u k:Nat} {d:Nd} {l3:List Int} (hv:validB ts s=true) (hd:(progPts s)[j]?=some d) (hs:setI d=(u:Int)) (hu:u<6) (hut:u<ts.length) (hk:k<(progPts s).length) (h3:AnsAt (tr.UserB ts) (validB ts s) s (j:Int) l3) (h0:useOfI (validB ts s) ts s k u=0):decide ((k:Int)∈l3)=false:=by
 have hdk:=List.getElem?_eq_getElem hk
 rw [hv,useOfI_yes hdk hut] at h0
 rw [decide_eq_false_iff_not,h3.mem]
 rintro ⟨-,-,-,k',hk',hb⟩
 obtain rfl:k=k':=by omega
 rw [Int.toNat_natCast] at hb
 exact ((tr.userB_iff hd hs hu hdk).mp hb).1 h0
theorem user_live {ts:List Int} {s:Sts} {j u:Nat} {d:Nd} {l3:List Int} (hv:validB ts s=true) (hd:(progPts s)[j]?=some d) (hs:setI d=(u:Int)) (hu:u<6) (h3:AnsAt (tr.UserB ts) (validB ts s) s (j:Int) l3) {l:List Int} (h:AnsAt (flowLive.Rel ts) (validB ts s) s (j:Int) l) :
  decide ((u:Int)∈l)=decide (0<l3.length):=by
 have hj:=(List.getElem?_eq_some_iff.mp hd).1
 have key:(u:Int)∈l↔LiveB ts (progPts s) j u:=by
  rw [h.mem]
  constructor
  ·rintro ⟨-,-,-,k,hk,hb⟩
   obtain rfl:u=k:=by omega
   rw [Int.toNat_natCast] at hb
   exact hb
  ·intro hb
   exact ⟨hv,by omega,by omega,u,rfl,by rw [Int.toNat_natCast];exact hb⟩
 rw [decide_eq_decide,key,tr.live_iff hd hs hu]
 constructor
 ·rintro ⟨i,⟨di,h1,h2⟩,h4⟩
  refine List.length_pos_of_mem (a:=(i:Int)) ?_
  rw [h3.mem]
  exact ⟨hv,by omega,by omega,i,rfl,by rw [Int.toNat_natCast];exact (tr.userB_iff hd hs hu h1).mpr ⟨h2,h4⟩⟩
 ·intro hp
  obtain ⟨z,hz⟩:=List.exists_mem_of_length_pos hp
  obtain ⟨-,-,-,k,rfl,hb⟩:=(h3.mem z).1 hz
  rw [Int.toNat_natCast] at hb
  obtain ⟨hkl,-⟩:=id hb
  have hdk:=List.getElem?_eq_getElem hkl
  obtain ⟨h7,h8⟩:=(tr.userB_iff hd hs hu hdk).mp hb
  exact ⟨k,⟨_,hdk,h7⟩,h8⟩
set_option maxRecDepth 100000 in
set_option maxHeartbeats 2000000 in
theorem walk (n0 c0:Nat) (A0:Option Addr) (W:World) (hB:ByteV W W.heap.size n0 A0 c0) (hTab:TabAt 0 Lib.deBruijn64tab W) (hg:0<W.heap.size) :
  Calls Tryz.prog 6 #[.slice A0 n0 c0] W fun e w'=>e=.returned (.bool true)∧Below W.heap.size W w':=by
 have hnc:=hB.1
 have hcm:=hB.2.1
 unfold maxLen at hcm
 by_cases hn:1048576<n0
 ·go_enter Tryz.func6,Tryz.ntmps6
  go_wp2_with fail
  go_ret
  exact ⟨rfl,Below.refl _ _⟩
 have e1:decide (1048576<(n0:Int))=false:=decide_eq_false (by omega)
 have HD:=Lib.hid (drawUsersOf_any n0 c0 A0 W hB)
 clear hB
 go_enter Tryz.func6,Tryz.ntmps6
 go_wp2_with fail
 refine HD.out.mono ?_
 rintro E w1 ⟨ts,s,At,As,ct,cs,a,rfl,hr1,ht1,hs1,hq,hb1⟩
 have h1s:=hb1.size
 obtain ⟨n,hn⟩:∃ n,ts.length=n:=⟨_,rfl⟩
 obtain ⟨m,hm⟩:∃ m,s.len=m:=⟨_,rfl⟩
 rw [hn,hm]
 have hn9:n≤1000:=by omega
 have HN:=Lib.hid hn
 have HM:=Lib.hid hm
 have HSZ:=Lib.hid hs1
 have hba:=(Below.refl w1.heap.size w1).alloc (Nat.le_refl _) (.cells #[.slice At n ct,.slice As m cs] 26)
 have h2n:=heap_alloc_new w1 (.cells #[.slice At n ct,.slice As m cs] 26)
 have h2z:w1.heap.size+1≤(w1.alloc (.cells #[.slice At n ct,.slice As m cs] 26)).heap.size:=Nat.le_of_eq (by simp)
 obtain ⟨w2,hw2⟩:∃ w2,w1.alloc (.cells #[.slice At n ct,.slice As m cs] 26)=w2:=⟨_,rfl⟩
 have T2:=Lib.hid (hr1.1.below hba (Nat.le_trans (Nat.le_refl _) hba.size))
 have R2:=Lib.hid (hr1.2.below hba (Nat.le_trans (Nat.le_refl _) hba.size))
 have B2:=Lib.hid (hb1.trans (hba.mono h1s))
 rw [hw2] at T2 R2 B2 h2n h2z
 have P2:=Lib.hid h2n
 clear hn hm hba hr1 ht1 hs1 hb1 h2n HD
 obtain ⟨PB,hPB⟩:∃ PB,w1.heap.size=PB:=⟨_,rfl⟩
 rw [hPB] at P2 h2z h1s
 have hPW:W.heap.size≤PB:=h1s
 have hP2:PB<w2.heap.size:=h2z
 obtain ⟨ns,hns⟩:∃ ns,pointsB (validB ts s) s=ns:=⟨_,rfl⟩
 obtain ⟨L,hL⟩:∃ L,ns.length=L:=⟨_,rfl⟩
 have hL9:L≤100000:=by rw [← hL,← hns];exact points_len9 _ _ HSZ.out
 have HNS:=Lib.hid hns
 have HLL:=Lib.hid hL
 clear hns hL
 have HC:=tr.implUsersOf_any ts s At As ct cs a w2 T2.out R2.out (tab_below hTab hg B2.out) (by have:=B2.out.size;omega)
 rw [HN.out,HM.out] at HC
 replace HC:=Lib.hid HC
 have p0:w2.cell? ⟨PB,0,none⟩=some (.slice At n ct):=(cB P2.out 0).trans rfl
 have p1:w2.cell? ⟨PB,1,none⟩=some (.slice As m cs):=(cB P2.out 1).trans rfl
 go_upto_region 4 with (fail)
 clear hw2 hPB
 go_wp2_with fail
 refine HC.out.mono ?_
 rintro E w3 ⟨v3,l3,rfl,hrow3,hans3,hb3⟩
 obtain ⟨q3,hl3⟩:∃ q,l3.length=q:=⟨_,rfl⟩
 obtain ⟨A3,c3,hv3,hle3,hmx3⟩:=rowI_formN hrow3 hl3
 have hq3:q3≤64:=by rw [← hl3];exact hans3.length
 have HL3:=Lib.hid hl3
 have HA3:=Lib.hid hans3
 clear hl3 hans3
 subst hv3
 unfold maxLen at hmx3
 have G3:=Lib.hid hrow3.intsV
 have hz3:=hb3.size
 have T3:=Lib.hid (T2.out.below hb3 hz3)
 have R3:=Lib.hid (R2.out.below hb3 hz3)
 have P3:=Lib.hid ((hb3.block PB (by omega)).trans P2.out)
 have B3:=Lib.hid (B2.out.trans (hb3.mono (by omega)))
 have hP3:PB<w3.heap.size:=by omega
 clear hrow3 hb3 HC p0 p1
 obtain ⟨q,hq⟩:∃ q,setByI (validB ts s) s a=q:=⟨_,rfl⟩
 have HSQ:=Lib.hid hq
 clear hq
 have HC:=implSetBy_any ts s At As ct cs a w3 T3.out R3.out (tab_below hTab hg B3.out) (by have:=B3.out.size;omega)
 rw [HN.out,HM.out,HSQ.out] at HC
 replace HC:=Lib.hid HC
 have p0:w3.cell? ⟨PB,0,none⟩=some (.slice At n ct):=(cB P3.out 0).trans rfl
 have p1:w3.cell? ⟨PB,1,none⟩=some (.slice As m cs):=(cB P3.out 1).trans rfl
 go_wp2_with fail
 refine HC.out.mono ?_
 rintro E w4 ⟨rfl,hb4⟩
 have hz4:=hb4.size
 have T4:=Lib.hid (T3.out.below hb4 hz4)
 have R4:=Lib.hid (R3.out.below hb4 hz4)
 have P4:=Lib.hid ((hb4.block PB (by omega)).trans P3.out)
 have B4:=Lib.hid (B3.out.trans (hb4.mono (by omega)))
 have hP4:PB<w4.heap.size:=by omega
 have G3:=Lib.hid (G3.out.below hb4 hz4)
 clear hb4 HC p0 p1
 have HC:=tr.specUsersOf_any ts s At As ct cs a w4 (by have:=HSZ.out;omega) T4.out R4.out
 rw [HN.out,HM.out] at HC
 replace HC:=Lib.hid HC
 have p0:w4.cell? ⟨PB,0,none⟩=some (.slice At n ct):=(cB P4.out 0).trans rfl
 have p1:w4.cell? ⟨PB,1,none⟩=some (.slice As m cs):=(cB P4.out 1).trans rfl
 go_wp2_with fail
 refine HC.out.mono ?_
 rintro E w5 ⟨v5,l5,rfl,hrow5,hans5,hb5⟩
 rw [hans5.unique HA3.out] at hrow5
 clear hans5
 obtain ⟨A5,c5,hv5,hle5,hmx5⟩:=rowI_formN hrow5 HL3.out
 subst hv5
 unfold maxLen at hmx5
 have G5:=Lib.hid hrow5.intsV
 have hz5:=hb5.size
 have T5:=Lib.hid (T4.out.below hb5 hz5)
 have R5:=Lib.hid (R4.out.below hb5 hz5)
 have P5:=Lib.hid ((hb5.block PB (by omega)).trans P4.out)
 have B5:=Lib.hid (B4.out.trans (hb5.mono (by omega)))
 have hP5:PB<w5.heap.size:=by omega
 have G3:=Lib.hid (G3.out.below hb5 hz5)
 clear hrow5 hb5 HC p0 p1
 have HBC:=bcInts_any l3 l3 A3 A5 c3 c5 w5 G3.out G5.out
 rw [HL3.out,decide_eq_true rfl] at HBC
 replace HBC:=Lib.hid HBC
 go_wp2_with fail
 refine HBC.out.mono ?_
 rintro E w6 ⟨rfl,hb6⟩
 have hz6:=hb6.size
 have T6:=Lib.hid (T5.out.below hb6 hz6)
 have R6:=Lib.hid (R5.out.below hb6 hz6)
 have P6:=Lib.hid ((hb6.block PB (by omega)).trans P5.out)
 have B6:=Lib.hid (B5.out.trans (hb6.mono (by omega)))
 have hP6:PB<w6.heap.size:=by omega
 have G3:=Lib.hid (G3.out.below hb6 hz6)
 clear hb6 HBC
 by_cases hq0:q<0
 ·have hq3:=no_user HSQ.out hq0 HA3.out
  rw [HL3.out] at hq3
  subst hq3
  have hqn:¬ (0:Int)≤q:=by omega
  have HC:=tr.specUsersOf_any ts s At As ct cs a w6 (by have:=HSZ.out;omega) T6.out R6.out
  rw [HN.out,HM.out] at HC
  replace HC:=Lib.hid HC
  have p0:w6.cell? ⟨PB,0,none⟩=some (.slice At n ct):=(cB P6.out 0).trans rfl
  have p1:w6.cell? ⟨PB,1,none⟩=some (.slice As m cs):=(cB P6.out 1).trans rfl
  go_wp2_with fail
  refine HC.out.mono ?_
  rintro E w7 ⟨v7,l7,rfl,hrow7,hans7,hb7⟩
  rw [hans7.unique HA3.out] at hrow7
  clear hans7
  obtain ⟨A7,c7,hv7,hle7,hmx7⟩:=rowI_formN hrow7 HL3.out
  subst hv7
  unfold maxLen at hmx7
  have G7:=Lib.hid hrow7.intsV
  have hz7:=hb7.size
  have T7:=Lib.hid (T6.out.below hb7 hz7)
  have R7:=Lib.hid (R6.out.below hb7 hz7)
  have P7:=Lib.hid ((hb7.block PB (by omega)).trans P6.out)
  have B7:=Lib.hid (B6.out.trans (hb7.mono (by omega)))
  have hP7:PB<w7.heap.size:=by omega
  have G3:=Lib.hid (G3.out.below hb7 hz7)
  clear hrow7 hb7 HC p0 p1
  have HBC:=bcInts_any l3 l3 A3 A7 c3 c7 w7 G3.out G7.out
  rw [HL3.out,decide_eq_true rfl] at HBC
  replace HBC:=Lib.hid HBC
  go_wp2_with fail
  refine HBC.out.mono ?_
  rintro E w8 ⟨rfl,hb8⟩
  have hz8:=hb8.size
  have T8:=Lib.hid (T7.out.below hb8 hz8)
  have R8:=Lib.hid (R7.out.below hb8 hz8)
  have P8:=Lib.hid ((hb8.block PB (by omega)).trans P7.out)
  have B8:=Lib.hid (B7.out.trans (hb8.mono (by omega)))
  have hP8:PB<w8.heap.size:=by omega
  clear hb8 HBC
  go_wp2_with fail
  go_ret
  exact ⟨rfl,B8.out⟩
 obtain ⟨j,u,z,d,hj,hqu,hv,hd,hsd,hu6,hz0,hzl,hzL,hze⟩:=own_facts HSQ.out hq0
 subst hj hqu
 have hut:u<ts.length:=by have h9:=typed_set ((progPts_allTyped hv).2 _ _ hd) _ (by omega) hsd;omega
 have hns:ns=progPts s:=by rw [← HNS.out,hv];rfl
 have HUI:Hid (∀ (k:Nat) (l:List Int),k<L→AnsAt (tr.TrIn 1 ts (u:Int)) (validB ts s) s (k:Int) l→decide ((k:Int)∈l3)=(decide (useOfI (validB ts s) ts s k u≠0) && decide ((j:Int)∈l))):=fun k l hk hl=>user_in hv hd hsd hu6 hut (by rw [← hns,HLL.out];exact hk) HA3.out hl
 have HUZ:Hid (∀ k:Nat,k<L→useOfI (validB ts s) ts s k u=0→decide ((k:Int)∈l3)=false):=fun k hk h0=>user_zero hv hd hsd hu6 hut (by rw [← hns,HLL.out];exact hk) HA3.out h0
 have HUL:Hid (∀ l,AnsAt (flowLive.Rel ts) (validB ts s) s (j:Int) l→decide ((u:Int)∈l)=decide (0<q3)):=fun l hl=>by rw [← HL3.out];exact user_live hv hd hsd hu6 HA3.out hl
 clear hv hd hsd hz0 hzl hzL hze hns hut
 have hL99:L≤9223372036854775807:=by omega
 have HC:=implPointsOf_any ts s At As ct cs w6 T6.out R6.out
 rw [HN.out,HM.out,HNS.out] at HC
 replace HC:=Lib.hid HC
 have p0:w6.cell? ⟨PB,0,none⟩=some (.slice At n ct):=(cB P6.out 0).trans rfl
 have p1:w6.cell? ⟨PB,1,none⟩=some (.slice As m cs):=(cB P6.out 1).trans rfl
 go_wp2_with fail
 refine HC.out.mono ?_
 rintro E w7 ⟨v7,us7,rfl,hrow7,hb7⟩
 have V7:=Lib.hid hrow7.reads
 have hz7:=hb7.size
 have T7:=Lib.hid (T6.out.below hb7 hz7)
 have R7:=Lib.hid (R6.out.below hb7 hz7)
 have P7:=Lib.hid ((hb7.block PB (by omega)).trans P6.out)
 have B7:=Lib.hid (B6.out.trans (hb7.mono (by omega)))
 have hP7:PB<w7.heap.size:=by omega
 have G3:=Lib.hid (G3.out.below hb7 hz7)
 obtain ⟨A7,c7,hv7,hc7,hmx7,-⟩:=id V7.out
 rw [HLL.out] at hv7 hc7
 subst hv7
 unfold maxLen at hmx7
 clear hrow7 hb7 HC p0 p1
 go_wp2_with fail
 go_loopw [8] (fun i wr=>∃ k:Nat,k≤L∧i=.int .i64 k∧Below w7.heap.size w7 wr) (fun i _=>L-(intOf i).toNat)
 case atStart=>exact ⟨0,Nat.zero_le _,rfl,Below.refl _ _⟩
 case round =>
  obtain ⟨k,hk,rfl,hb⟩:=hrel
  have hzr:=hb.size
  have Tr:=Lib.hid (T7.out.below hb hzr)
  have Rr:=Lib.hid (R7.out.below hb hzr)
  have Pr:=Lib.hid ((hb.block PB (by omega)).trans P7.out)
  have Br:=Lib.hid (B7.out.trans (hb.mono (by omega)))
  have hPr:PB<wr.heap.size:=by omega
  have G3:=Lib.hid (G3.out.below hb hzr)
  have V7:=Lib.hid (V7.out.below hb)
  by_cases hlt:k<L
  ·have f1:IntKind.i64.wrap ((k:Int)+1)=(k:Int)+1:=IntWalk.i64_in _ (by omega)
   obtain ⟨r,hr⟩:∃ r,useOfI (validB ts s) ts s k u=r:=⟨_,rfl⟩
   obtain ⟨bb,hbb⟩:∃ bb,decide ((k:Int)∈l3)=bb:=⟨_,rfl⟩
   have HR9:=Lib.hid hr
   have HBB:=Lib.hid hbb
   have HSU:Hid (∀ l,AnsAt (tr.TrIn 1 ts (u:Int)) (validB ts s) s (k:Int) l→bb=(decide (r≠0) && decide ((j:Int)∈l))):=fun l hl=>by
    have h9:=HUI.out k l hlt hl
    rw [HR9.out,HBB.out] at h9
    exact h9
   have HUE:Hid (∀ w',Below wr.heap.size wr w'→Calls Tryz.prog 20 #[.agg #[.slice At n ct,.slice As m cs],.int .i64 k,.int .i64 u] w' fun E w''=>E=.returned (.int .i64 r)∧Below w'.heap.size w' w''):=fun w' hb=>by
    have h:=implUseOf_any ts s At As ct cs k u w' (Tr.out.below hb hb.size) (Rr.out.below hb hb.size)
    rw [HN.out,HM.out,HR9.out] at h
    exact h
   have HB1:Hid (∀ w',Below wr.heap.size wr w'→Calls Tryz.prog 19 #[.slice A3 q3 c3,.int .i64 k] w' fun E w''=>E=.returned (.bool bb)∧Below w'.heap.size w' w''):=fun w' hb=>by
    have h:=bcIn_any l3 k A3 c3 w' (G3.out.below hb hb.size)
    rw [HL3.out,HBB.out] at h
    exact h
   have hbz:r=0→bb=false:=fun e=>by
    rw [← HBB.out]
    exact HUZ.out k hlt (by rw [HR9.out];exact e)
   clear hr hbb
   by_cases hr0:r=0
   ·have hb0:=hbz hr0
    subst hb0
    have g1:(r != 0)=false:=by rw [hr0];rfl
    have g2:(r==0)=true:=by rw [hr0];rfl
    have g3:decide (r=0)=true:=decide_eq_true hr0
    have g4:decide (¬ r=0)=false:=decide_eq_false (fun h=>h hr0)
    clear hbz hr0
    have p0:wr.cell? ⟨PB,0,none⟩=some (.slice At n ct):=(cB Pr.out 0).trans rfl
    have p1:wr.cell? ⟨PB,1,none⟩=some (.slice As m cs):=(cB Pr.out 1).trans rfl
    go_upto_region 12 with (fail)
    refine wp_region_held_drew (S:=(fun w9=>Below wr.heap.size wr w9)) (by kernel_rfl) (Below.refl _ _).drew (fun hHeld=>?_)
    generalize hwd:wr.drew=wd at *
    clear hwd
    refine wpAnyH_take (i:=0) (oi:=⟨_,_,_,_,_,_⟩) (v:=.slice A3 q3 c3) rfl (by kernel_rfl) (by kernel_rfl) (by kernel_rfl) (fun _ _ _ h=>h) (Or.inl ⟨by rfl,fun w9 hSw=>by go_simp⟩) hHeld ?_
    try simp only [Act.put,sA,sB,sC]
    refine wpAnyH_take (i:=1) (oi:=⟨_,_,_,_,_,_⟩) (v:=.int .i64 (k:Int)) rfl (by kernel_rfl) (by kernel_rfl) (by kernel_rfl) (fun _ _ _ h=>h) (Or.inl ⟨by rfl,fun w9 hSw=>by go_simp⟩) hHeld ?_
    try simp only [Act.put,sA,sB,sC]
    refine wpAnyH_take (i:=3) (oi:=⟨_,_,_,_,_,_⟩) (v:=.agg #[.slice At n ct,.slice As m cs]) rfl (by kernel_rfl) (by kernel_rfl) (by kernel_rfl) (fun _ _ _ h=>h) (Or.inl ⟨by rfl,fun w9 hSw=>by have h9:=(hSw.cell (p:=⟨PB,0,none⟩) (by show PB<_;omega)).trans p0;have h8:=(hSw.cell (p:=⟨PB,1,none⟩) (by show PB<_;omega)).trans p1;go_simp⟩) hHeld ?_
    try simp only [Act.put,sA,sB,sC]
    refine wpAnyH_take (i:=4) (oi:=⟨_,_,_,_,_,_⟩) (v:=.int .i64 (k:Int)) rfl (by kernel_rfl) (by kernel_rfl) (by kernel_rfl) (fun _ _ _ h=>h) (Or.inl ⟨by rfl,fun w9 hSw=>by go_simp⟩) hHeld ?_
    try simp only [Act.put,sA,sB,sC]
    refine wpAnyH_take (i:=5) (oi:=⟨_,_,_,_,_,_⟩) (v:=.int .i64 (u:Int)) rfl (by kernel_rfl) (by kernel_rfl) (by kernel_rfl) (fun _ _ _ h=>h) (Or.inl ⟨by rfl,fun w9 hSw=>by go_simp⟩) hHeld ?_
    try simp only [Act.put,sA,sB,sC]
    refine wpAnyH_ready (rs:=[2]) (by kernel_rfl) (by simp) ?_
    refine AllReadyH.cons (o:=⟨_,_,_,_,_,_⟩) rfl (fun K hK=>?_) AllReadyH.nil
    have hc9:=HB1.out _ hHeld
    go_simp
    refine hc9.mono ?_
    rintro E w11 ⟨rfl,hbn⟩
    refine hK.out _ _ (hHeld.trans (hbn.mono hHeld.size)) (fun hHeld=>?_)
    clear hK K hc9 hbn
    refine wpAnyH_ready (rs:=[6]) (by kernel_rfl) (by simp) ?_
    refine AllReadyH.cons (o:=⟨_,_,_,_,_,_⟩) rfl (fun K hK=>?_) AllReadyH.nil
    have hc9:=HUE.out _ hHeld
    go_simp
    refine hc9.mono ?_
    rintro E w12 ⟨rfl,hbn⟩
    refine hK.out _ _ (hHeld.trans (hbn.mono hHeld.size)) (fun hHeld=>?_)
    clear hK K hc9 hbn
    refine wpAnyH_ready (rs:=[7]) (by kernel_rfl) (by simp) ?_
    refine AllReadyH.cons (o:=⟨_,_,_,_,_,_⟩) rfl (fun K hK=>?_) AllReadyH.nil
    go_simp
    refine hK.out _ _ hHeld (fun hHeld=>?_)
    clear hK K
    refine wpAnyH_ready (rs:=[8]) (by kernel_rfl) (by simp) ?_
    refine AllReadyH.cons (o:=⟨_,_,_,_,_,_⟩) rfl (fun K hK=>?_) AllReadyH.nil
    go_simp
    refine hK.out _ _ hHeld (fun hHeld=>?_)
    clear hK K
    refine wpAnyH_take (i:=9) (oi:=⟨_,_,_,_,_,_⟩) (v:=undef) rfl (by kernel_rfl) (by kernel_rfl) (by kernel_rfl) (fun _ _ _ h=>h) (Or.inr ⟨by rfl,rfl⟩) hHeld ?_
    try simp only [Act.put,sA,sB,sC]
    refine wpAnyH_take (i:=10) (oi:=⟨_,_,_,_,_,_⟩) (v:=undef) rfl (by kernel_rfl) (by kernel_rfl) (by kernel_rfl) (fun _ _ _ h=>h) (Or.inr ⟨by rfl,rfl⟩) hHeld ?_
    try simp only [Act.put,sA,sB,sC]
    refine wpAnyH_take (i:=11) (oi:=⟨_,_,_,_,_,_⟩) (v:=undef) rfl (by kernel_rfl) (by kernel_rfl) (by kernel_rfl) (fun _ _ _ h=>h) (Or.inr ⟨by rfl,rfl⟩) hHeld ?_
    try simp only [Act.put,sA,sB,sC]
    refine wpAnyH_take (i:=13) (oi:=⟨_,_,_,_,_,_⟩) (v:=undef) rfl (by kernel_rfl) (by kernel_rfl) (by kernel_rfl) (fun _ _ _ h=>h) (Or.inr ⟨by rfl,rfl⟩) hHeld ?_
    try simp only [Act.put,sA,sB,sC]
    refine wpAnyH_take (i:=12) (oi:=⟨_,_,_,_,_,_⟩) (v:=undef) rfl (by kernel_rfl) (by kernel_rfl) (by kernel_rfl) (fun _ _ _ h=>h) (Or.inr ⟨by rfl,rfl⟩) hHeld ?_
    try simp only [Act.put,sA,sB,sC]
    refine wpAnyH_take (i:=14) (oi:=⟨_,_,_,_,_,_⟩) (v:=undef) rfl (by kernel_rfl) (by kernel_rfl) (by kernel_rfl) (fun _ _ _ h=>h) (Or.inr ⟨by rfl,rfl⟩) hHeld ?_
    try simp only [Act.put,sA,sB,sC]
    refine wpAnyH_ready (rs:=[15]) (by kernel_rfl) (by simp) ?_
    refine AllReadyH.cons (o:=⟨_,_,_,_,_,_⟩) rfl (fun K hK=>?_) AllReadyH.nil
    go_simp
    refine hK.out _ _ hHeld (fun hHeld=>?_)
    clear hK K
    refine wpAnyH_ready (rs:=[16]) (by kernel_rfl) (by simp) ?_
    refine AllReadyH.cons (o:=⟨_,_,_,_,_,_⟩) rfl (fun K hK=>?_) AllReadyH.nil
    go_simp
    refine hK.out _ _ hHeld (fun hHeld=>?_)
    clear hK K
    refine wpAnyH_done (by kernel_rfl) ?_ _
    have hB9:=hb.trans (hHeld.mono hzr)
    clear hHeld
    go_wp2_with fail
    go_roundw
    case rel=>exact ⟨k+1,by omega,by go_num,hB9⟩
    case measure=>simp [intOf];omega
   ·have g2:(r==0)=false:=by rw [beq_eq_false_iff_ne];exact hr0
    have g1:(r != 0)=true:=by rw [bne,g2];rfl
    have g3:decide (r=0)=false:=decide_eq_false hr0
    have g4:decide (¬ r=0)=true:=decide_eq_true hr0
    have g4':decide (r≠0)=true:=g4
    clear hbz
    cases bb
    ·have HST:Hid (∀ w',Below wr.heap.size wr w'→Calls Tryz.prog 26 #[.agg #[.slice At n ct,.slice As m cs],.int .i64 k,.int .i64 u] w' fun E w''=>∃ (A:Option Addr) (c:Nat) (l:List Int) (q:Nat),E=.returned (.slice A q c)∧l.length=q∧IntsV w'' 0 w''.heap.size l A c∧decide ((j:Int)∈l)=false∧Below w'.heap.size w' w''):=fun w' hb=>by
      have h:=tr.implSettersOf_any ts s At As ct cs k u w' (Tr.out.below hb hb.size) (Rr.out.below hb hb.size) (tab_below hTab hg (Br.out.trans (hb.mono (by have:=Br.out.size;omega)))) (by have:=Br.out.size;have:=hb.size;omega)
      rw [HN.out,HM.out] at h
      refine h.mono ?_
      rintro E w'' ⟨v,l,rfl,hrow,hans,hb2⟩
      obtain ⟨A,c,hv,-,-⟩:=rowI_formN hrow rfl
      subst hv
      exact ⟨A,c,l,_,rfl,rfl,hrow.intsV,by have h9:=HSU.out _ hans;rw [g4',Bool.true_and] at h9;exact h9.symm,hb2⟩
     have HBI:Hid (∀ (w':World) (A:Option Addr) (c:Nat) (l:List Int) (q:Nat),l.length=q→IntsV w' 0 w'.heap.size l A c→decide ((j:Int)∈l)=false→Calls Tryz.prog 19 #[.slice A q c,.int .i64 (j:Int)] w' fun e w''=>e=.returned (.bool false)∧Below w'.heap.size w' w''):=fun w' A c l q hq hI hd=>by
      subst hq
      have h:=bcIn_any l (j:Int) A c w' hI
      rw [hd] at h
      exact h
     have p0:wr.cell? ⟨PB,0,none⟩=some (.slice At n ct):=(cB Pr.out 0).trans rfl
     have p1:wr.cell? ⟨PB,1,none⟩=some (.slice As m cs):=(cB Pr.out 1).trans rfl
     go_upto_region 12 with (fail)
     refine wp_region_held_drew (S:=(fun w9=>Below wr.heap.size wr w9)) (by kernel_rfl) (Below.refl _ _).drew (fun hHeld=>?_)
     generalize hwd:wr.drew=wd at *
     clear hwd
     refine wpAnyH_take (i:=0) (oi:=⟨_,_,_,_,_,_⟩) (v:=.slice A3 q3 c3) rfl (by kernel_rfl) (by kernel_rfl) (by kernel_rfl) (fun _ _ _ h=>h) (Or.inl ⟨by rfl,fun w9 hSw=>by go_simp⟩) hHeld ?_
     try simp only [Act.put,sA,sB,sC]
     refine wpAnyH_take (i:=1) (oi:=⟨_,_,_,_,_,_⟩) (v:=.int .i64 (k:Int)) rfl (by kernel_rfl) (by kernel_rfl) (by kernel_rfl) (fun _ _ _ h=>h) (Or.inl ⟨by rfl,fun w9 hSw=>by go_simp⟩) hHeld ?_
     try simp only [Act.put,sA,sB,sC]
     refine wpAnyH_take (i:=3) (oi:=⟨_,_,_,_,_,_⟩) (v:=.agg #[.slice At n ct,.slice As m cs]) rfl (by kernel_rfl) (by kernel_rfl) (by kernel_rfl) (fun _ _ _ h=>h) (Or.inl ⟨by rfl,fun w9 hSw=>by have h9:=(hSw.cell (p:=⟨PB,0,none⟩) (by show PB<_;omega)).trans p0;have h8:=(hSw.cell (p:=⟨PB,1,none⟩) (by show PB<_;omega)).trans p1;go_simp⟩) hHeld ?_
     try simp only [Act.put,sA,sB,sC]
     refine wpAnyH_take (i:=4) (oi:=⟨_,_,_,_,_,_⟩) (v:=.int .i64 (k:Int)) rfl (by kernel_rfl) (by kernel_rfl) (by kernel_rfl) (fun _ _ _ h=>h) (Or.inl ⟨by rfl,fun w9 hSw=>by go_simp⟩) hHeld ?_
     try simp only [Act.put,sA,sB,sC]
     refine wpAnyH_take (i:=5) (oi:=⟨_,_,_,_,_,_⟩) (v:=.int .i64 (u:Int)) rfl (by kernel_rfl) (by kernel_rfl) (by kernel_rfl) (fun _ _ _ h=>h) (Or.inl ⟨by rfl,fun w9 hSw=>by go_simp⟩) hHeld ?_
     try simp only [Act.put,sA,sB,sC]
     refine wpAnyH_ready (rs:=[2]) (by kernel_rfl) (by simp) ?_
     refine AllReadyH.cons (o:=⟨_,_,_,_,_,_⟩) rfl (fun K hK=>?_) AllReadyH.nil
     have hc9:=HB1.out _ hHeld
     go_simp
     refine hc9.mono ?_
     rintro E w11 ⟨rfl,hbn⟩
     refine hK.out _ _ (hHeld.trans (hbn.mono hHeld.size)) (fun hHeld=>?_)
     clear hK K hc9 hbn
     refine wpAnyH_ready (rs:=[6]) (by kernel_rfl) (by simp) ?_
     refine AllReadyH.cons (o:=⟨_,_,_,_,_,_⟩) rfl (fun K hK=>?_) AllReadyH.nil
     have hc9:=HUE.out _ hHeld
     go_simp
     refine hc9.mono ?_
     rintro E w12 ⟨rfl,hbn⟩
     refine hK.out _ _ (hHeld.trans (hbn.mono hHeld.size)) (fun hHeld=>?_)
     clear hK K hc9 hbn
     refine wpAnyH_ready (rs:=[7]) (by kernel_rfl) (by simp) ?_
     refine AllReadyH.cons (o:=⟨_,_,_,_,_,_⟩) rfl (fun K hK=>?_) AllReadyH.nil
     go_simp
     refine hK.out _ _ hHeld (fun hHeld=>?_)
     clear hK K
     refine wpAnyH_ready (rs:=[8]) (by kernel_rfl) (by simp) ?_
     refine AllReadyH.cons (o:=⟨_,_,_,_,_,_⟩) rfl (fun K hK=>?_) AllReadyH.nil
     go_simp
     refine hK.out _ _ hHeld (fun hHeld=>?_)
     clear hK K
     refine wpAnyH_take (i:=9) (oi:=⟨_,_,_,_,_,_⟩) (v:=.agg #[.slice At n ct,.slice As m cs]) rfl (by kernel_rfl) (by kernel_rfl) (by kernel_rfl) (fun _ _ _ h=>h) (Or.inl ⟨by rfl,fun w9 hSw=>by have h9:=(hSw.cell (p:=⟨PB,0,none⟩) (by show PB<_;omega)).trans p0;have h8:=(hSw.cell (p:=⟨PB,1,none⟩) (by show PB<_;omega)).trans p1;go_simp⟩) hHeld ?_
     try simp only [Act.put,sA,sB,sC]
     refine wpAnyH_take (i:=10) (oi:=⟨_,_,_,_,_,_⟩) (v:=.int .i64 (k:Int)) rfl (by kernel_rfl) (by kernel_rfl) (by kernel_rfl) (fun _ _ _ h=>h) (Or.inl ⟨by rfl,fun w9 hSw=>by go_simp⟩) hHeld ?_
     try simp only [Act.put,sA,sB,sC]
     refine wpAnyH_take (i:=11) (oi:=⟨_,_,_,_,_,_⟩) (v:=.int .i64 (u:Int)) rfl (by kernel_rfl) (by kernel_rfl) (by kernel_rfl) (fun _ _ _ h=>h) (Or.inl ⟨by rfl,fun w9 hSw=>by go_simp⟩) hHeld ?_
     try simp only [Act.put,sA,sB,sC]
     refine wpAnyH_take (i:=13) (oi:=⟨_,_,_,_,_,_⟩) (v:=.int .i64 (j:Int)) rfl (by kernel_rfl) (by kernel_rfl) (by kernel_rfl) (fun _ _ _ h=>h) (Or.inl ⟨by rfl,fun w9 hSw=>by go_simp⟩) hHeld ?_
     try simp only [Act.put,sA,sB,sC]
     refine wpAnyH_ready (rs:=[12]) (by kernel_rfl) (by simp) ?_
     refine AllReadyH.cons (o:=⟨_,_,_,_,_,_⟩) rfl (fun K hK=>?_) AllReadyH.nil
     have hc9:=HST.out _ hHeld
     go_simp
     refine hc9.mono ?_
     rintro E w13 ⟨A9,c9,l9,q9,rfl,hq9,hI9,hin9,hbn⟩
     refine hK.out _ _ (hHeld.trans (hbn.mono hHeld.size)) (fun hHeld=>?_)
     clear hK K hc9 hbn
     refine wpAnyH_ready (rs:=[14]) (by kernel_rfl) (by simp) ?_
     refine AllReadyH.cons (o:=⟨_,_,_,_,_,_⟩) rfl (fun K hK=>?_) AllReadyH.nil
     have hc9:=HBI.out _ _ _ _ _ hq9 hI9 hin9
     go_simp
     refine hc9.mono ?_
     rintro E w14 ⟨rfl,hbn⟩
     refine hK.out _ _ (hHeld.trans (hbn.mono hHeld.size)) (fun hHeld=>?_)
     clear hK K hc9 hbn
     refine wpAnyH_ready (rs:=[15]) (by kernel_rfl) (by simp) ?_
     refine AllReadyH.cons (o:=⟨_,_,_,_,_,_⟩) rfl (fun K hK=>?_) AllReadyH.nil
     go_simp
     refine hK.out _ _ hHeld (fun hHeld=>?_)
     clear hK K
     refine wpAnyH_ready (rs:=[16]) (by kernel_rfl) (by simp) ?_
     refine AllReadyH.cons (o:=⟨_,_,_,_,_,_⟩) rfl (fun K hK=>?_) AllReadyH.nil
     go_simp
     refine hK.out _ _ hHeld (fun hHeld=>?_)
     clear hK K
     refine wpAnyH_done (by kernel_rfl) ?_ _
     have hB9:=hb.trans (hHeld.mono hzr)
     clear hHeld
     go_wp2_with fail
     go_roundw
     case rel=>exact ⟨k+1,by omega,by go_num,hB9⟩
     case measure=>simp [intOf];omega
    ·have HST:Hid (∀ w',Below wr.heap.size wr w'→Calls Tryz.prog 26 #[.agg #[.slice At n ct,.slice As m cs],.int .i64 k,.int .i64 u] w' fun E w''=>∃ (A:Option Addr) (c:Nat) (l:List Int) (q:Nat),E=.returned (.slice A q c)∧l.length=q∧IntsV w'' 0 w''.heap.size l A c∧decide ((j:Int)∈l)=true∧Below w'.heap.size w' w''):=fun w' hb=>by
      have h:=tr.implSettersOf_any ts s At As ct cs k u w' (Tr.out.below hb hb.size) (Rr.out.below hb hb.size) (tab_below hTab hg (Br.out.trans (hb.mono (by have:=Br.out.size;omega)))) (by have:=Br.out.size;have:=hb.size;omega)
      rw [HN.out,HM.out] at h
      refine h.mono ?_
      rintro E w'' ⟨v,l,rfl,hrow,hans,hb2⟩
      obtain ⟨A,c,hv,-,-⟩:=rowI_formN hrow rfl
      subst hv
      exact ⟨A,c,l,_,rfl,rfl,hrow.intsV,by have h9:=HSU.out _ hans;rw [g4',Bool.true_and] at h9;exact h9.symm,hb2⟩
     have HBI:Hid (∀ (w':World) (A:Option Addr) (c:Nat) (l:List Int) (q:Nat),l.length=q→IntsV w' 0 w'.heap.size l A c→decide ((j:Int)∈l)=true→Calls Tryz.prog 19 #[.slice A q c,.int .i64 (j:Int)] w' fun e w''=>e=.returned (.bool true)∧Below w'.heap.size w' w''):=fun w' A c l q hq hI hd=>by
      subst hq
      have h:=bcIn_any l (j:Int) A c w' hI
      rw [hd] at h
      exact h
     have p0:wr.cell? ⟨PB,0,none⟩=some (.slice At n ct):=(cB Pr.out 0).trans rfl
     have p1:wr.cell? ⟨PB,1,none⟩=some (.slice As m cs):=(cB Pr.out 1).trans rfl
     go_upto_region 12 with (fail)
     refine wp_region_held_drew (S:=(fun w9=>Below wr.heap.size wr w9)) (by kernel_rfl) (Below.refl _ _).drew (fun hHeld=>?_)
     generalize hwd:wr.drew=wd at *
     clear hwd
     refine wpAnyH_take (i:=0) (oi:=⟨_,_,_,_,_,_⟩) (v:=.slice A3 q3 c3) rfl (by kernel_rfl) (by kernel_rfl) (by kernel_rfl) (fun _ _ _ h=>h) (Or.inl ⟨by rfl,fun w9 hSw=>by go_simp⟩) hHeld ?_
     try simp only [Act.put,sA,sB,sC]
     refine wpAnyH_take (i:=1) (oi:=⟨_,_,_,_,_,_⟩) (v:=.int .i64 (k:Int)) rfl (by kernel_rfl) (by kernel_rfl) (by kernel_rfl) (fun _ _ _ h=>h) (Or.inl ⟨by rfl,fun w9 hSw=>by go_simp⟩) hHeld ?_
     try simp only [Act.put,sA,sB,sC]
     refine wpAnyH_take (i:=3) (oi:=⟨_,_,_,_,_,_⟩) (v:=.agg #[.slice At n ct,.slice As m cs]) rfl (by kernel_rfl) (by kernel_rfl) (by kernel_rfl) (fun _ _ _ h=>h) (Or.inl ⟨by rfl,fun w9 hSw=>by have h9:=(hSw.cell (p:=⟨PB,0,none⟩) (by show PB<_;omega)).trans p0;have h8:=(hSw.cell (p:=⟨PB,1,none⟩) (by show PB<_;omega)).trans p1;go_simp⟩) hHeld ?_
     try simp only [Act.put,sA,sB,sC]
     refine wpAnyH_take (i:=4) (oi:=⟨_,_,_,_,_,_⟩) (v:=.int .i64 (k:Int)) rfl (by kernel_rfl) (by kernel_rfl) (by kernel_rfl) (fun _ _ _ h=>h) (Or.inl ⟨by rfl,fun w9 hSw=>by go_simp⟩) hHeld ?_
     try simp only [Act.put,sA,sB,sC]
     refine wpAnyH_take (i:=5) (oi:=⟨_,_,_,_,_,_⟩) (v:=.int .i64 (u:Int)) rfl (by kernel_rfl) (by kernel_rfl) (by kernel_rfl) (fun _ _ _ h=>h) (Or.inl ⟨by rfl,fun w9 hSw=>by go_simp⟩) hHeld ?_
     try simp only [Act.put,sA,sB,sC]
     refine wpAnyH_ready (rs:=[2]) (by kernel_rfl) (by simp) ?_
     refine AllReadyH.cons (o:=⟨_,_,_,_,_,_⟩) rfl (fun K hK=>?_) AllReadyH.nil
     have hc9:=HB1.out _ hHeld
     go_simp
     refine hc9.mono ?_
     rintro E w11 ⟨rfl,hbn⟩
     refine hK.out _ _ (hHeld.trans (hbn.mono hHeld.size)) (fun hHeld=>?_)
     clear hK K hc9 hbn
     refine wpAnyH_ready (rs:=[6]) (by kernel_rfl) (by simp) ?_
     refine AllReadyH.cons (o:=⟨_,_,_,_,_,_⟩) rfl (fun K hK=>?_) AllReadyH.nil
     have hc9:=HUE.out _ hHeld
     go_simp
     refine hc9.mono ?_
     rintro E w12 ⟨rfl,hbn⟩
     refine hK.out _ _ (hHeld.trans (hbn.mono hHeld.size)) (fun hHeld=>?_)
     clear hK K hc9 hbn
     refine wpAnyH_ready (rs:=[7]) (by kernel_rfl) (by simp) ?_
     refine AllReadyH.cons (o:=⟨_,_,_,_,_,_⟩) rfl (fun K hK=>?_) AllReadyH.nil
     go_simp
     refine hK.out _ _ hHeld (fun hHeld=>?_)
     clear hK K
     refine wpAnyH_ready (rs:=[8]) (by kernel_rfl) (by simp) ?_
     refine AllReadyH.cons (o:=⟨_,_,_,_,_,_⟩) rfl (fun K hK=>?_) AllReadyH.nil
     go_simp
     refine hK.out _ _ hHeld (fun hHeld=>?_)
     clear hK K
     refine wpAnyH_take (i:=9) (oi:=⟨_,_,_,_,_,_⟩) (v:=.agg #[.slice At n ct,.slice As m cs]) rfl (by kernel_rfl) (by kernel_rfl) (by kernel_rfl) (fun _ _ _ h=>h) (Or.inl ⟨by rfl,fun w9 hSw=>by have h9:=(hSw.cell (p:=⟨PB,0,none⟩) (by show PB<_;omega)).trans p0;have h8:=(hSw.cell (p:=⟨PB,1,none⟩) (by show PB<_;omega)).trans p1;go_simp⟩) hHeld ?_
     try simp only [Act.put,sA,sB,sC]
     refine wpAnyH_take (i:=10) (oi:=⟨_,_,_,_,_,_⟩) (v:=.int .i64 (k:Int)) rfl (by kernel_rfl) (by kernel_rfl) (by kernel_rfl) (fun _ _ _ h=>h) (Or.inl ⟨by rfl,fun w9 hSw=>by go_simp⟩) hHeld ?_
     try simp only [Act.put,sA,sB,sC]
     refine wpAnyH_take (i:=11) (oi:=⟨_,_,_,_,_,_⟩) (v:=.int .i64 (u:Int)) rfl (by kernel_rfl) (by kernel_rfl) (by kernel_rfl) (fun _ _ _ h=>h) (Or.inl ⟨by rfl,fun w9 hSw=>by go_simp⟩) hHeld ?_
     try simp only [Act.put,sA,sB,sC]
     refine wpAnyH_take (i:=13) (oi:=⟨_,_,_,_,_,_⟩) (v:=.int .i64 (j:Int)) rfl (by kernel_rfl) (by kernel_rfl) (by kernel_rfl) (fun _ _ _ h=>h) (Or.inl ⟨by rfl,fun w9 hSw=>by go_simp⟩) hHeld ?_
     try simp only [Act.put,sA,sB,sC]
     refine wpAnyH_ready (rs:=[12]) (by kernel_rfl) (by simp) ?_
     refine AllReadyH.cons (o:=⟨_,_,_,_,_,_⟩) rfl (fun K hK=>?_) AllReadyH.nil
     have hc9:=HST.out _ hHeld
     go_simp
     refine hc9.mono ?_
     rintro E w13 ⟨A9,c9,l9,q9,rfl,hq9,hI9,hin9,hbn⟩
     refine hK.out _ _ (hHeld.trans (hbn.mono hHeld.size)) (fun hHeld=>?_)
     clear hK K hc9 hbn
     refine wpAnyH_ready (rs:=[14]) (by kernel_rfl) (by simp) ?_
     refine AllReadyH.cons (o:=⟨_,_,_,_,_,_⟩) rfl (fun K hK=>?_) AllReadyH.nil
     have hc9:=HBI.out _ _ _ _ _ hq9 hI9 hin9
     go_simp
     refine hc9.mono ?_
     rintro E w14 ⟨rfl,hbn⟩
     refine hK.out _ _ (hHeld.trans (hbn.mono hHeld.size)) (fun hHeld=>?_)
     clear hK K hc9 hbn
     refine wpAnyH_ready (rs:=[15]) (by kernel_rfl) (by simp) ?_
     refine AllReadyH.cons (o:=⟨_,_,_,_,_,_⟩) rfl (fun K hK=>?_) AllReadyH.nil
     go_simp
     refine hK.out _ _ hHeld (fun hHeld=>?_)
     clear hK K
     refine wpAnyH_ready (rs:=[16]) (by kernel_rfl) (by simp) ?_
     refine AllReadyH.cons (o:=⟨_,_,_,_,_,_⟩) rfl (fun K hK=>?_) AllReadyH.nil
     go_simp
     refine hK.out _ _ hHeld (fun hHeld=>?_)
     clear hK K
     refine wpAnyH_done (by kernel_rfl) ?_ _
     have hB9:=hb.trans (hHeld.mono hzr)
     clear hHeld
     go_wp2_with fail
     go_roundw
     case rel=>exact ⟨k+1,by omega,by go_num,hB9⟩
     case measure=>simp [intOf];omega
  ·have hk':k=L:=by omega
   have hkq:decide ((k:Int)<(L:Int))=false:=decide_eq_false (by omega)
   obtain ⟨bo,hbo⟩:∃ bo,decide (0<q3)=bo:=⟨_,rfl⟩
   have hbi:decide ((0:Int)<(q3:Int))=bo:=by rw [← hbo];exact decide_eq_decide.mpr (by omega)
   have HBO:=Lib.hid hbo
   clear hbo
   have HC:=flowLive.implLiveAfter_any ts s At As ct cs j wr Tr.out Rr.out (tab_below hTab hg Br.out) (by have:=Br.out.size;omega)
   rw [HN.out,HM.out] at HC
   replace HC:=Lib.hid HC
   have p0:wr.cell? ⟨PB,0,none⟩=some (.slice At n ct):=(cB Pr.out 0).trans rfl
   have p1:wr.cell? ⟨PB,1,none⟩=some (.slice As m cs):=(cB Pr.out 1).trans rfl
   go_wp2_with fail
   refine HC.out.mono ?_
   rintro E w9 ⟨v9,l9,rfl,hrow9,hans9,hb9⟩
   obtain ⟨q9,hl9⟩:∃ q,l9.length=q:=⟨_,rfl⟩
   obtain ⟨A9,c9,hv9,hle9,hmx9⟩:=rowI_formN hrow9 hl9
   have hq9:q9≤64:=by rw [← hl9];exact hans9.length
   have HL9:=Lib.hid hl9
   have HA9:=Lib.hid hans9
   clear hl9 hans9
   subst hv9
   unfold maxLen at hmx9
   have G9:=Lib.hid hrow9.intsV
   have hz9:=hb9.size
   have T9:=Lib.hid (Tr.out.below hb9 hz9)
   have R9:=Lib.hid (Rr.out.below hb9 hz9)
   have P9:=Lib.hid ((hb9.block PB (by omega)).trans Pr.out)
   have B9:=Lib.hid (Br.out.trans (hb9.mono (by omega)))
   have hP9:PB<w9.heap.size:=by omega
   clear hrow9 hb9 HC p0 p1
   have hin:decide ((u:Int)∈l9)=bo:=by rw [HUL.out _ HA9.out];exact HBO.out
   have HCI:=bcIn_any l9 (u:Int) A9 c9 w9 G9.out
   rw [HL9.out,hin] at HCI
   replace HCI:=Lib.hid HCI
   clear hin
   go_wp2_with fail
   refine HCI.out.mono ?_
   rintro E w10 ⟨rfl,hb10⟩
   have B10:=Lib.hid (B9.out.trans (hb10.mono (by have:=B9.out.size;omega)))
   clear hb10 HCI
   go_wp2_with fail
   go_ret
   exact ⟨by simp [HBO.out],B10.out⟩
theorem cellsByte:Tryz.prog.cellsOf 5=1:=by kernel_rfl
theorem read_bytes {H:Type} {enc:TypeId × Value→H} {W:World} {spare:Nat→Bool} {held:Bool} {fuel:Nat} {v:Value} {x:DataW H × List MemPlace} (h:DataW.trod enc Tryz.prog W 0 spare held fuel 22 [v]=some x) :
  ∃ (n:Nat) (A:Option Addr) (c:Nat),v=.slice A n c∧ByteV W W.heap.size n A c:=by
 rcases DataW.trod_slice Tryz.underlying22 h with ⟨hcs,_⟩ | ⟨a,len,cap,elems,rest,n,_,hcs,_,_,hl,hm,hlen,hel,_⟩
 ·injection hcs with hcs _
  exact ⟨0,none,0,hcs,by simp,by simp [maxLen],fun h=>absurd h (by simp)⟩
 ·injection hcs with hcs _
  have hex:∀ i,i<len→∃ z:Int,W.cell? (a.add i)=some (.int .u8 z)∧0≤z∧z≤255:=by
   intro i hi
   have h1:=hel i hi
   rw [cellsByte,Nat.mul_one,List.getElem?_eq_getElem (by omega)] at h1
   obtain ⟨cs',hc,ht⟩:=Option.bind_eq_some_iff.1 h1
   obtain ⟨_,_,hat⟩:=World.cells?_some hc
   obtain ⟨z,rfl,_,hwf⟩:=DataW.trod_int Tryz.underlying5 ht
   have hz:0≤z∧z≤255:=by simpa [Lit.wf,IntKind.min,IntKind.max,IntKind.signed,IntKind.bits] using hwf
   exact ⟨z,by simpa [Addr.add] using hat 0 (by omega),hz.1,hz.2⟩
  refine ⟨len,some a,cap,hcs,hl,hm,fun h0=>⟨a,rfl,?_,hex⟩⟩
  obtain ⟨z,hz,_⟩:=hex 0 h0
  have:=World.block_lt_of_cell? W _ hz
  rwa [block_add] at this
theorem own:ownKnob Tryz.prog.godebug=none:=by kernel_rfl
theorem laidOut:laidOutB Tryz.prog=true:=by kernel_rfl
set_option maxRecDepth 100000 in
theorem lifted (os:Os) (started:os.Started) (H:Type) (enc:TypeId × Value→H) :
  ReturnsInHanded {} Tryz.checked os 6 .any (fun w args=>(Rows.fnUsersOfSpec.pre enc Tryz.prog Tryz.f6 [] false w args∧laidMetH Tryz.prog listed w)∧sizedMet enc Tryz.prog Tryz.f6 (OpenSpec.ofChange Rows.fnUsersOfSpec) false w args)
   (Rows.fnUsersOfSpec.post enc Tryz.prog Tryz.f6 false true false false):=by
 refine returnsInHanded_of_change_and (C:=Tryz.checked) (X:=fun w _=>laidMetH Tryz.prog listed w) (fun _ _ _ hh h=>h.of_heap hh) own started (by kernel_rfl) Tryz.func6
  (ChangeSpec.witness_shaped (enc:=enc) (C:=Tryz.checked) (os:=os) (X:=fun w _=>laidMetH Tryz.prog listed w) false (World.doorLaid Tryz.prog 400 os) #[.slice none 0 0] 8 rfl (World.shaped_of_RefB (by kernel_rfl) (by kernel_rfl)) (by kernel_rfl) (by kernel_rfl) (by kernel_rfl) (door_met os _)) ?_
 intro W base args ds gs before hval0 hW _ _ hL _
 have hval:∀ (j:Nat) t v,Tryz.f6.params[j]?=some t→args[j]?=some v→Value.okWide Tryz.prog W .any base t v:=hval0
 have hW':=hW
 obtain ⟨p,q,hA0,hV,rfl,hfz,hnd⟩:=hW
 have hA:DataW.TrodAll enc Tryz.prog W 0 (fun _=>true) true Tryz.f6.params.toList args.toList ds p:=hA0
 rw [Tryz.params6] at hA hval
 obtain ⟨v0,vs0,d0,ds0,p0,q0,hargs,rfl,rfl,h0,r0⟩:=trodAll_cons hA
 obtain ⟨rfl,rfl,rfl⟩:=trodAll_nil r0
 obtain rfl:args=#[v0]:=by cases args;simp_all
 obtain ⟨rfl,rfl⟩:=trodVars_none hV
 have k0:=h0
 have lt0:∀ x∈p0,x.block<W.heap.size:=by obtain ⟨m,hm⟩:=k0;exact DataW.trod_lt m _ _ _ hm
 obtain ⟨a0,len0,cap0,rfl⟩:=okWide_slice Tryz.underlying22 (hval 0 22 v0 rfl rfl)
 obtain ⟨fu0,hf0⟩:=h0
 obtain ⟨nb0,At0,ct0,hv0,hT0⟩:=read_bytes hf0
 injection hv0 with hv0 hv0' hv0''
 subst hv0 hv0' hv0''
 obtain ⟨hTab,hTabLt⟩:=tab_of_laid hL
 clear hA0 hval0
 simp only [List.append_nil] at hW'
 refine (walk _ _ _ W hT0 hTab hTabLt).mono fun e W' ⟨he,bel⟩=>?_
 subst he
 exact ⟨_,rfl,_,_,_,[],_,[],hW',trodAll_mk1 (shut_bool Tryz.underlying4 _),(trodAll_cons_mk (Below.trod laidOut (by kernel_rfl) (of_decide_eq_true (by kernel_rfl)) k0 bel lt0) trodAll_mk0),rfl,bel.frame _,fun h=>by cases h⟩
theorem over:Rows.fnUsersOfRow.holds Tryz.pinned (OpenSpec.ofChange Rows.fnUsersOfSpec) :=
 OpenClaim.holds_of_wide 6 Tryz.f6 rfl rfl rfl rfl rfl rfl rfl ⟨rfl,rfl,rfl,rfl,rfl⟩ rfl rfl rfl rfl rfl (by kernel_rfl) Tryz.func6 (by kernel_rfl)
  (of_decide_eq_true (by kernel_rfl)) (by unfold Func.isWrapper;first | (rw [if_pos (by decide +kernel)];kernel_rfl) | (rw [if_neg (by decide +kernel)];exact ⟨rfl,rfl⟩))
  (fun os started H enc _=>lifted os started H enc)
set_option maxRecDepth 100000 in
theorem proved:Rows.FnUsersOfCardSaid :=
 Claim7.holds_tied_plain_at .later [] [.data] true (true, "a8cee4c2774af7e9bec96c1cf39a97fded44048fc6d579c08f505256ae79d544") false
  over (fun _ h=>by cases h) (by kernel_rfl) (fun _ h=>by cases h) fnUsersOf_row_tie rfl ⟨rfl,rfl⟩ (by kernel_rfl) rfl
  (fun f fn hf hfn=>by
   obtain rfl:f=6:=Option.some.inj ((show Tryz.prog.funcNamed "loop.example/borrowcheck/laws.FnUsersOf" = some 6 by kernel_rfl).symm.trans hf) |>.symm
   obtain rfl:fn=Tryz.f6:=(Option.some.inj (Tryz.func6.symm.trans hfn)).symm
   exact ⟨by kernel_rfl,fun j t ht=>by
    rw [Tryz.params6] at ht
    have hm:t∈[22]:=by simpa using Array.mem_of_getElem? ht
    have hall:([22].all fun u=>!Tryz.prog.wantsStandIn u)=true:=by kernel_rfl
    exact (show Tryz.prog.wantsStandIn t=false by simpa using List.all_eq_true.1 hall t hm)⟩)
  (by kernel_rfl)
#print axioms proved
end Go.Proofs.YtdcldcffnkhegaaGreatDoor.fnUsersOf
