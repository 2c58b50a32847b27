/-
  Whatever the bytes: what a loan sets comes from it,at the next point,and what values come from is the model's. Conditions: none.
-/
import Derived.Test.YtopibompapopiaaGreatDoorQPuL
import Derived.Test.YtopibompapopiaaGreatDoorQDrGb
import Derived.Test.YtopibompapopiaaGreatDoorQBcG
import Derived.Test.YtopibompapopiaaGreatDoorQLoI
import Derived.Test.YtopibompapopiaaGreatDoorQLiI
import Derived.Test.YtopibompapopiaaGreatDoorQLawLIg
import Derived.Test.YtopibompapopiaaGreatDoorQPoX
import Derived.Test.YtopibompapopiaaGreatDoorQTab
import Derived.Test.YtopibompapopiaaGreatDoorRows
import Derived.Test.YtopibompapopiaaGreatDoorCards
import Derived.Test.YtopibompapopiaaGreatDoorTie
import Derived.LaidMore
import Derived.SevenTiedAt
import Derived.WalkKit
import Derived.ProofKit
import Derived.OpenShut
import Derived.Lib.SmallJoins
import Derived.Deep.RegionHeld3
namespace Go.Proofs.YtopibompapopiaaGreatDoor.fnOwnLoan
open Go.ChangeShapes Go.WideShapes Go.ChangeAt Go.RowKit Go.Deep Go.Joins
set_option linter.unusedVariables false
theorem rowI_formN {w:World} {B n:Nat} {v:Value} {xs:List Int} (h:RowI w B v xs) (hn:xs.length=n):∃ A c,v=.slice A n c∧n≤c∧c≤maxLen:=by
 obtain ⟨A,c,h1,h2,h3,_⟩:=own_form h.own
 subst hn
 exact ⟨A,c,h1,h2,h3⟩
theorem rowI_form {w:World} {B:Nat} {v:Value} {xs:List Int} (h:RowI w B v xs):∃ A c,v=.slice A xs.length c∧xs.length≤c∧c≤maxLen:=rowI_formN h rfl
theorem points_len9 (ok:Bool) (s:Sts) (h:s.size≤40000):(pointsB ok s).length≤100000:=by
 unfold pointsB
 split
 ·rw [progPts_len]
  have:=s.npts_le
  omega
 ·simp
theorem own_in {ts:List Int} {s:Sts} {j:Nat} {d:Nd} {z:Nat} {l:List Int} (hv:validB ts s=true) (hd:(progPts s)[j]?=some d) (hop:d.op=4∨d.op=5) (hz:z<(progPts s).length) (he:eN (progPts s) j z) (h:AnsAt (LoIn ts d.x) (validB ts s) s z l):(j:Int)∈l:=by
 have hA:=progPts_allTyped hv
 have hxy:=(effD_ok hA.1 (hA.2 j d hd)).xy
 rw [h.mem]
 refine ⟨hv,by omega,by omega,j,rfl,hxy.1,by omega,?_⟩
 rw [Int.toNat_natCast]
 exact LFlo.gen he ⟨d,hd,hop,rfl,.inr (by omega),by omega⟩
set_option maxRecDepth 100000 in
set_option maxHeartbeats 2000000 in
theorem walk (n0 c0:Nat) (A0:Option Addr) (W:World) (hB:ByteV W W.heap.size n0 A0 c0) (hTab:TabAt 0 Lib.deBruijn64tab W) (hg:0<W.heap.size) :
  Calls Tryz.prog 6 #[.slice A0 n0 c0] W fun e w'=>e=.returned (.bool true)∧Below W.heap.size W w':=by
 have hnc:=hB.1
 have hcm:=hB.2.1
 unfold maxLen at hcm
 by_cases hn:1048576<n0
 ·go_enter Tryz.func6,Tryz.ntmps6
  go_wp2_with fail
  go_ret
  exact ⟨rfl,Below.refl _ _⟩
 have e1:decide (1048576<(n0:Int))=false:=decide_eq_false (by omega)
 have HD:=Lib.hid (drawLoansIn_any n0 c0 A0 W hB)
 clear hB
 go_enter Tryz.func6,Tryz.ntmps6
 go_wp2_with fail
 refine HD.out.mono ?_
 rintro E w1 ⟨ts,s,At,As,ct,cs,a,v,rfl,hr1,ht1,hs1,hq,hb1⟩
 have h1s:=hb1.size
 obtain ⟨n,hn⟩:∃ n,ts.length=n:=⟨_,rfl⟩
 obtain ⟨m,hm⟩:∃ m,s.len=m:=⟨_,rfl⟩
 rw [hn,hm]
 have hn9:n≤1000:=by omega
 have HN:=Lib.hid hn
 have HM:=Lib.hid hm
 have HSZ:=Lib.hid hs1
 have hba:=(Below.refl w1.heap.size w1).alloc (Nat.le_refl _) (.cells #[.slice At n ct,.slice As m cs] 26)
 have h2n:=heap_alloc_new w1 (.cells #[.slice At n ct,.slice As m cs] 26)
 have h2z:w1.heap.size+1≤(w1.alloc (.cells #[.slice At n ct,.slice As m cs] 26)).heap.size:=Nat.le_of_eq (by simp)
 obtain ⟨w2,hw2⟩:∃ w2,w1.alloc (.cells #[.slice At n ct,.slice As m cs] 26)=w2:=⟨_,rfl⟩
 have T2:=Lib.hid (hr1.1.below hba (Nat.le_trans (Nat.le_refl _) hba.size))
 have R2:=Lib.hid (hr1.2.below hba (Nat.le_trans (Nat.le_refl _) hba.size))
 have B2:=Lib.hid (hb1.trans (hba.mono h1s))
 rw [hw2] at T2 R2 B2 h2n h2z
 have P2:=Lib.hid h2n
 clear hn hm hba hr1 ht1 hs1 hb1 h2n HD
 obtain ⟨PB,hPB⟩:∃ PB,w1.heap.size=PB:=⟨_,rfl⟩
 rw [hPB] at P2 h2z h1s
 have hPW:W.heap.size≤PB:=h1s
 have hP2:PB<w2.heap.size:=h2z
 obtain ⟨ns,hns⟩:∃ ns,pointsB (validB ts s) s=ns:=⟨_,rfl⟩
 obtain ⟨L,hL⟩:∃ L,ns.length=L:=⟨_,rfl⟩
 have hL9:L≤100000:=by rw [← hL,← hns];exact points_len9 _ _ HSZ.out
 have HNS:=Lib.hid hns
 have HLL:=Lib.hid hL
 clear hns hL
 have H1:Hid (∀ w',Below w2.heap.size w2 w'→Calls Tryz.prog 20 #[.agg #[.slice At n ct,.slice As m cs],.int .i64 a,.int .i64 v] w' fun E w''=>∃ (A:Option Addr) (c:Nat) (l:List Int) (q:Nat),E=.returned (.slice A q c)∧l.length=q∧IntsV w'' 0 w''.heap.size l A c∧AnsAt (LoIn ts v) (validB ts s) s a l∧Below w'.heap.size w' w''):=fun w' hb=>by
  have h:=implLoansIn_any ts s At As ct cs a v w' (T2.out.below hb hb.size) (R2.out.below hb hb.size) (tab_below hTab hg (B2.out.trans (hb.mono (by have:=B2.out.size;omega)))) (by have:=B2.out.size;have:=hb.size;omega)
  rw [HN.out,HM.out] at h
  refine h.mono ?_
  rintro E w'' ⟨v,l,rfl,hrow,hans,hb2⟩
  obtain ⟨A,c,hv,-,-⟩:=rowI_formN hrow rfl
  subst hv
  exact ⟨A,c,l,_,rfl,rfl,hrow.intsV,hans,hb2⟩
 have H2:Hid (∀ w',Below w2.heap.size w2 w'→Calls Tryz.prog 22 #[.agg #[.slice At n ct,.slice As m cs],.int .i64 a,.int .i64 v] w' fun E w''=>∃ (A:Option Addr) (c:Nat) (l:List Int) (q:Nat),E=.returned (.slice A q c)∧l.length=q∧IntsV w'' 0 w''.heap.size l A c∧AnsAt (LoIn ts v) (validB ts s) s a l∧Below w'.heap.size w' w''):=fun w' hb=>by
  have h:=specLoansIn_any ts s At As ct cs a v w' (by have:=HSZ.out;omega) (T2.out.below hb hb.size) (R2.out.below hb hb.size)
  rw [HN.out,HM.out] at h
  refine h.mono ?_
  rintro E w'' ⟨v,l,rfl,hrow,hans,hb2⟩
  obtain ⟨A,c,hv,-,-⟩:=rowI_formN hrow rfl
  subst hv
  exact ⟨A,c,l,_,rfl,rfl,hrow.intsV,hans,hb2⟩
 have HBC:Hid (∀ (w':World) (A A':Option Addr) (c c':Nat) (l l':List Int) (q q':Nat),l.length=q→l'.length=q'→IntsV w' 0 w'.heap.size l A c→IntsV w' 0 w'.heap.size l' A' c'→AnsAt (LoIn ts v) (validB ts s) s a l→AnsAt (LoIn ts v) (validB ts s) s a l'→Calls Tryz.prog 21 #[.slice A q c,.slice A' q' c'] w' fun e w''=>e=.returned (.bool true)∧Below w'.heap.size w' w''):=fun w' A A' c c' l l' q q' hq hq' hI hI' h1 h2=>by
  subst hq hq'
  have h:=bcInts_any l l' A A' c c' w' hI hI'
  rw [decide_eq_true (h1.unique h2)] at h
  exact h
 have p0:w2.cell? ⟨PB,0,none⟩=some (.slice At n ct):=(cB P2.out 0).trans rfl
 have p1:w2.cell? ⟨PB,1,none⟩=some (.slice As m cs):=(cB P2.out 1).trans rfl
 have HS:Hid (∀ w',Below w2.heap.size w2 w'→(Below w2.heap.size w2 w'∧w'.cell? ⟨PB,0,none⟩=some (.slice At n ct)∧w'.cell? ⟨PB,1,none⟩=some (.slice As m cs))):=fun w' hb=>⟨hb,(hb.cell (by have:=B2.out.size;omega)).trans p0,(hb.cell (by have:=B2.out.size;omega)).trans p1⟩
 go_upto_region 4 with (fail)
 clear hw2 hPB
 go_region_held3 (fun w'=>Below w2.heap.size w2 w'∧w'.cell? ⟨PB,0,none⟩=some (.slice At n ct)∧w'.cell? ⟨PB,1,none⟩=some (.slice As m cs))
  (first | with_reducible exact HS.out _ ((Below.refl w2.heap.size w2).drew) | with_reducible exact HS.out _ (Below.refl w2.heap.size w2) | with_reducible exact HS.out _ ((And.left ‹Below w2.heap.size w2 _∧_›).trans (hbn.mono (And.left ‹Below w2.heap.size w2 _∧_›).size)))
  (first
   | (go_at_call 20;(with_reducible refine (H1.out _ (And.left ‹Below w2.heap.size w2 _∧_›)).mono ?_);rintro E w' ⟨A8,c8,l8,q8,rfl,hq8,hI8,hn8,hbn⟩)
   | (go_at_call 22;(with_reducible refine (H2.out _ (And.left ‹Below w2.heap.size w2 _∧_›)).mono ?_);rintro E w' ⟨A9,c9,l9,q9,rfl,hq9,hI9,hn9,hbn⟩;replace hI8:=hI8.below hbn hbn.size)
   | (go_at_call 21;(with_reducible refine (HBC.out _ _ _ _ _ _ _ _ _ hq8 hq9 hI8 hI9 hn8 hn9).mono ?_);rintro E w' ⟨rfl,hbn⟩))
 all_goals
  obtain ⟨hb3,-⟩:=‹Below w2.heap.size w2 _∧_›
  clear H1 H2 HBC HS p0 p1 hI8 hI9 hn8 hn9 hq8 hq9
  obtain ⟨w3,hw3⟩:∃ w3,w3=w':=⟨_,rfl⟩
  rw [← hw3] at hb3 ⊢
  clear hw3
  have hz3:=hb3.size
  have T3:=Lib.hid (T2.out.below hb3 hz3)
  have R3:=Lib.hid (R2.out.below hb3 hz3)
  have P3:=Lib.hid ((hb3.block PB (by omega)).trans P2.out)
  have B3:=Lib.hid (B2.out.trans (hb3.mono (by omega)))
  have hP3:PB<w3.heap.size:=by omega
  clear hb3
  have HC:=implLoansOf_any ts s At As ct cs w3 T3.out R3.out (tab_below hTab hg B3.out) (by have:=B3.out.size;omega)
  rw [HN.out,HM.out] at HC
  replace HC:=Lib.hid HC
  have p0:w3.cell? ⟨PB,0,none⟩=some (.slice At n ct):=(cB P3.out 0).trans rfl
  have p1:w3.cell? ⟨PB,1,none⟩=some (.slice As m cs):=(cB P3.out 1).trans rfl
  go_wp2_with fail
  refine HC.out.mono ?_
  rintro E w4 ⟨v4,l4,rfl,hrow4,hans4,hb4⟩
  have N4:=Lib.hid hrow4.reads
  have HA4:=Lib.hid hans4
  have hz4:=hb4.size
  have T4:=Lib.hid (T3.out.below hb4 hz4)
  have R4:=Lib.hid (R3.out.below hb4 hz4)
  have P4:=Lib.hid ((hb4.block PB (by omega)).trans P3.out)
  have B4:=Lib.hid (B3.out.trans (hb4.mono (by omega)))
  have hP4:PB<w4.heap.size:=by omega
  obtain ⟨A4,c4,hv4,hc4,hmx4,-⟩:=id N4.out
  obtain ⟨q4,hl4⟩:∃ q,l4.length=q:=⟨_,rfl⟩
  rw [hl4] at hv4 hc4
  subst hv4
  unfold maxLen at hmx4
  have HL4:=Lib.hid hl4
  clear hrow4 hans4 hb4 HC p0 p1 hl4
  have HC:=implPointsOf_any ts s At As ct cs w4 T4.out R4.out
  rw [HN.out,HM.out,HNS.out] at HC
  replace HC:=Lib.hid HC
  have p0:w4.cell? ⟨PB,0,none⟩=some (.slice At n ct):=(cB P4.out 0).trans rfl
  have p1:w4.cell? ⟨PB,1,none⟩=some (.slice As m cs):=(cB P4.out 1).trans rfl
  go_wp2_with fail
  refine HC.out.mono ?_
  rintro E w5 ⟨v5,us5,rfl,hrow5,hb5⟩
  have V5:=Lib.hid hrow5.reads
  have hz5:=hb5.size
  have T5:=Lib.hid (T4.out.below hb5 hz5)
  have R5:=Lib.hid (R4.out.below hb5 hz5)
  have P5:=Lib.hid ((hb5.block PB (by omega)).trans P4.out)
  have B5:=Lib.hid (B4.out.trans (hb5.mono (by omega)))
  have hP5:PB<w5.heap.size:=by omega
  have N4:=Lib.hid (N4.out.below hb5)
  obtain ⟨A5,c5,hv5,hc5,hmx5,-⟩:=id V5.out
  rw [HLL.out] at hv5 hc5
  subst hv5
  unfold maxLen at hmx5
  clear hrow5 hb5 HC p0 p1
  go_wp2_with fail
  go_loopw [8] (fun i wr=>∃ k:Nat,k≤q4∧i=.int .i64 k∧Below w5.heap.size w5 wr) (fun i _=>q4-(intOf i).toNat)
  case atStart=>exact ⟨0,Nat.zero_le _,rfl,Below.refl _ _⟩
  case round =>
   obtain ⟨k,hk,rfl,hb⟩:=hrel
   have hzr:=hb.size
   have Tr:=Lib.hid (T5.out.below hb hzr)
   have Rr:=Lib.hid (R5.out.below hb hzr)
   have Pr:=Lib.hid ((hb.block PB (by omega)).trans P5.out)
   have Br:=Lib.hid (B5.out.trans (hb.mono (by omega)))
   have hPr:PB<wr.heap.size:=by omega
   have N4:=Lib.hid (N4.out.below hb)
   have V5:=Lib.hid (V5.out.below hb)
   by_cases hlt:k<q4
   ·have hq9:q4≤9223372036854775807:=by omega
    have f1:IntKind.i64.wrap ((k:Int)+1)=(k:Int)+1:=IntWalk.i64_in _ (by omega)
    obtain ⟨A1,c1,e1,-,-,h4⟩:=id N4.out
    injection e1 with e1 e1m e1'
    subst e1 e1'
    obtain ⟨g,hg0,hgl,hcc⟩:=h4 (by rw [HL4.out];omega)
    subst hg0
    obtain ⟨x,hx⟩:∃ x,l4[k]?=some x:=⟨l4[k]'(by rw [HL4.out];exact hlt),List.getElem?_eq_getElem _⟩
    obtain ⟨k0,k1,k2⟩:=hcc k x hx
    obtain ⟨hv,j,d,hd,hop,hxe⟩:=HA4.out.at hx
    subst hxe
    simp only at k0 k1 k2
    have hns:ns=progPts s:=by rw [← HNS.out,hv];rfl
    have hjL:j<L:=by rw [← HLL.out,hns];exact (List.getElem?_eq_some_iff.1 hd).1
    clear h4 hcc e1m hx
    obtain ⟨A1,c1,e1,-,-,h4⟩:=id V5.out
    injection e1 with e1 e1m e1'
    subst e1 e1'
    obtain ⟨g2,hg0,hgl2,hcc⟩:=h4 (by rw [HLL.out];omega)
    subst hg0
    obtain ⟨Au,cu,⟨a0,a1,a2,a3,a4⟩,hI⟩:=hcc j d (by rw [hns];exact hd)
    obtain ⟨z,hz0,hzl,hzL,hze⟩:=loan_next hd hop
    obtain ⟨b0,z',rfl,-,hbb,hxz,hc⟩:=hI.elem (k:=0) hzl
    rw [hz0] at hxz
    injection hxz with hxz
    subst hxz
    have hc0:wr.cell? b0=some (.int .i64 (z:Int)):=by rw [← hc];congr 1
    obtain ⟨nl,hnl⟩:∃ nl,d.next.length=nl:=⟨_,rfl⟩
    rw [hnl] at a4 hzl
    have HV:=Lib.hid hv
    have HD:=Lib.hid hd
    have HOP:=Lib.hid hop
    have HZE:=Lib.hid hze
    have HZL:=Lib.hid hzL
    clear h4 hcc e1m hI hz0 hc hnl hv hd hop hze hzL hns
    obtain ⟨dx,hdx⟩:∃ dx,d.x=dx:=⟨_,rfl⟩
    have HDX:=Lib.hid hdx
    rw [hdx] at a1
    clear hdx
    have HPL:Hid (∀ w',Below wr.heap.size wr w'→Calls Tryz.prog 20 #[.agg #[.slice At n ct,.slice As m cs],.int .i64 z,.int .i64 dx] w' fun E w''=>∃ (A:Option Addr) (c:Nat) (l:List Int) (q:Nat),E=.returned (.slice A q c)∧l.length=q∧IntsV w'' 0 w''.heap.size l A c∧decide ((j:Int)∈l)=true∧Below w'.heap.size w' w''):=fun w' hb=>by
     have h:=implLoansIn_any ts s At As ct cs z dx w' (Tr.out.below hb hb.size) (Rr.out.below hb hb.size) (tab_below hTab hg (Br.out.trans (hb.mono (by have:=Br.out.size;omega)))) (by have:=Br.out.size;have:=hb.size;omega)
     rw [HN.out,HM.out] at h
     refine h.mono ?_
     rintro E w'' ⟨v,l,rfl,hrow,hans,hb2⟩
     obtain ⟨A,c,hv,-,-⟩:=rowI_formN hrow rfl
     subst hv
     exact ⟨A,c,l,_,rfl,rfl,hrow.intsV,decide_eq_true (own_in HV.out HD.out HOP.out HZL.out HZE.out (by rw [HDX.out];exact hans)),hb2⟩
    have HBI:Hid (∀ (w':World) (A:Option Addr) (c:Nat) (l:List Int) (q:Nat),l.length=q→IntsV w' 0 w'.heap.size l A c→decide ((j:Int)∈l)=true→Calls Tryz.prog 24 #[.slice A q c,.int .i64 (j:Int)] w' fun e w''=>e=.returned (.bool true)∧Below w'.heap.size w' w''):=fun w' A c l q hq hI hd=>by
     subst hq
     have h:=bcIn_any l (j:Int) A c w' hI
     rw [hd] at h
     exact h
    have p0:wr.cell? ⟨PB,0,none⟩=some (.slice At n ct):=(cB Pr.out 0).trans rfl
    have p1:wr.cell? ⟨PB,1,none⟩=some (.slice As m cs):=(cB Pr.out 1).trans rfl
    have HS:Hid (∀ w',Below wr.heap.size wr w'→(Below wr.heap.size wr w'∧w'.cell? ⟨PB,0,none⟩=some (.slice At n ct)∧w'.cell? ⟨PB,1,none⟩=some (.slice As m cs)∧w'.cell? ⟨g2,j*5+4,none⟩=some (.slice (some b0) nl cu)∧w'.cell? ⟨g2,j*5+1,none⟩=some (.int .i64 dx)∧w'.cell? b0=some (.int .i64 z))):=fun w' hb=>⟨hb,(hb.cell (by have:=Br.out.size;omega)).trans p0,(hb.cell (by have:=Br.out.size;omega)).trans p1,(hb.cell (by have:=Br.out.size;omega)).trans a4,(hb.cell (by have:=Br.out.size;omega)).trans a1,(hb.cell (by have:=Br.out.size;omega)).trans hc0⟩
    clear a0 a2 a3
    go_upto_region 12 with (fail)
    go_region_held3 (fun w'=>Below wr.heap.size wr w'∧w'.cell? ⟨PB,0,none⟩=some (.slice At n ct)∧w'.cell? ⟨PB,1,none⟩=some (.slice As m cs)∧w'.cell? ⟨g2,j*5+4,none⟩=some (.slice (some b0) nl cu)∧w'.cell? ⟨g2,j*5+1,none⟩=some (.int .i64 dx)∧w'.cell? b0=some (.int .i64 z))
     (first | with_reducible exact HS.out _ ((Below.refl wr.heap.size wr).drew) | with_reducible exact HS.out _ (Below.refl wr.heap.size wr) | with_reducible exact HS.out _ ((And.left ‹Below wr.heap.size wr _∧_›).trans (hbn.mono (And.left ‹Below wr.heap.size wr _∧_›).size)))
     (first
      | (go_at_call 20;(with_reducible refine (HPL.out _ (And.left ‹Below wr.heap.size wr _∧_›)).mono ?_);rintro E w' ⟨A9,c9,l9,q9,rfl,hq9,hI9,hin9,hbn⟩)
      | (go_at_call 24;(with_reducible refine (HBI.out _ _ _ _ _ hq9 hI9 hin9).mono ?_);rintro E w' ⟨rfl,hbn⟩))
    all_goals
     have hbl:=(And.left ‹Below wr.heap.size wr _∧_›)
     have B9:=hb.trans (hbl.mono hzr)
     clear hbl
     go_wp2_with fail
     go_roundw
     case rel=>exact ⟨k+1,by omega,by go_num,B9⟩
     case measure=>simp [intOf];omega
   ·have hk':k=q4:=by omega
    have hkq:decide ((k:Int)<(q4:Int))=false:=decide_eq_false (by omega)
    have B7:=Lib.hid Br.out
    go_wp2_with fail
    go_ret
    exact ⟨rfl,B7.out⟩
theorem cellsByte:Tryz.prog.cellsOf 5=1:=by kernel_rfl
theorem read_bytes {H:Type} {enc:TypeId × Value→H} {W:World} {spare:Nat→Bool} {held:Bool} {fuel:Nat} {v:Value} {x:DataW H × List MemPlace} (h:DataW.trod enc Tryz.prog W 0 spare held fuel 22 [v]=some x) :
  ∃ (n:Nat) (A:Option Addr) (c:Nat),v=.slice A n c∧ByteV W W.heap.size n A c:=by
 rcases DataW.trod_slice Tryz.underlying22 h with ⟨hcs,_⟩ | ⟨a,len,cap,elems,rest,n,_,hcs,_,_,hl,hm,hlen,hel,_⟩
 ·injection hcs with hcs _
  exact ⟨0,none,0,hcs,by simp,by simp [maxLen],fun h=>absurd h (by simp)⟩
 ·injection hcs with hcs _
  have hex:∀ i,i<len→∃ z:Int,W.cell? (a.add i)=some (.int .u8 z)∧0≤z∧z≤255:=by
   intro i hi
   have h1:=hel i hi
   rw [cellsByte,Nat.mul_one,List.getElem?_eq_getElem (by omega)] at h1
   obtain ⟨cs',hc,ht⟩:=Option.bind_eq_some_iff.1 h1
   obtain ⟨_,_,hat⟩:=World.cells?_some hc
   obtain ⟨z,rfl,_,hwf⟩:=DataW.trod_int Tryz.underlying5 ht
   have hz:0≤z∧z≤255:=by simpa [Lit.wf,IntKind.min,IntKind.max,IntKind.signed,IntKind.bits] using hwf
   exact ⟨z,by simpa [Addr.add] using hat 0 (by omega),hz.1,hz.2⟩
  refine ⟨len,some a,cap,hcs,hl,hm,fun h0=>⟨a,rfl,?_,hex⟩⟩
  obtain ⟨z,hz,_⟩:=hex 0 h0
  have:=World.block_lt_of_cell? W _ hz
  rwa [block_add] at this
theorem own:ownKnob Tryz.prog.godebug=none:=by kernel_rfl
theorem laidOut:laidOutB Tryz.prog=true:=by kernel_rfl
set_option maxRecDepth 100000 in
theorem lifted (os:Os) (started:os.Started) (H:Type) (enc:TypeId × Value→H) :
  ReturnsInHanded {} Tryz.checked os 6 .any (fun w args=>(Rows.fnOwnLoanSpec.pre enc Tryz.prog Tryz.f6 [] false w args∧laidMetH Tryz.prog listed w)∧sizedMet enc Tryz.prog Tryz.f6 (OpenSpec.ofChange Rows.fnOwnLoanSpec) false w args)
   (Rows.fnOwnLoanSpec.post enc Tryz.prog Tryz.f6 false true false false):=by
 refine returnsInHanded_of_change_and (C:=Tryz.checked) (X:=fun w _=>laidMetH Tryz.prog listed w) (fun _ _ _ hh h=>h.of_heap hh) own started (by kernel_rfl) Tryz.func6
  (ChangeSpec.witness_shaped (enc:=enc) (C:=Tryz.checked) (os:=os) (X:=fun w _=>laidMetH Tryz.prog listed w) false (World.doorLaid Tryz.prog 400 os) #[.slice none 0 0] 8 rfl (World.shaped_of_RefB (by kernel_rfl) (by kernel_rfl)) (by kernel_rfl) (by kernel_rfl) (by kernel_rfl) (door_met os _)) ?_
 intro W base args ds gs before hval0 hW _ _ hL _
 have hval:∀ (j:Nat) t v,Tryz.f6.params[j]?=some t→args[j]?=some v→Value.okWide Tryz.prog W .any base t v:=hval0
 have hW':=hW
 obtain ⟨p,q,hA0,hV,rfl,hfz,hnd⟩:=hW
 have hA:DataW.TrodAll enc Tryz.prog W 0 (fun _=>true) true Tryz.f6.params.toList args.toList ds p:=hA0
 rw [Tryz.params6] at hA hval
 obtain ⟨v0,vs0,d0,ds0,p0,q0,hargs,rfl,rfl,h0,r0⟩:=trodAll_cons hA
 obtain ⟨rfl,rfl,rfl⟩:=trodAll_nil r0
 obtain rfl:args=#[v0]:=by cases args;simp_all
 obtain ⟨rfl,rfl⟩:=trodVars_none hV
 have k0:=h0
 have lt0:∀ x∈p0,x.block<W.heap.size:=by obtain ⟨m,hm⟩:=k0;exact DataW.trod_lt m _ _ _ hm
 obtain ⟨a0,len0,cap0,rfl⟩:=okWide_slice Tryz.underlying22 (hval 0 22 v0 rfl rfl)
 obtain ⟨fu0,hf0⟩:=h0
 obtain ⟨nb0,At0,ct0,hv0,hT0⟩:=read_bytes hf0
 injection hv0 with hv0 hv0' hv0''
 subst hv0 hv0' hv0''
 obtain ⟨hTab,hTabLt⟩:=tab_of_laid hL
 clear hA0 hval0
 simp only [List.append_nil] at hW'
 refine (walk _ _ _ W hT0 hTab hTabLt).mono fun e W' ⟨he,bel⟩=>?_
 subst he
 exact ⟨_,rfl,_,_,_,[],_,[],hW',trodAll_mk1 (shut_bool Tryz.underlying4 _),(trodAll_cons_mk (Below.trod laidOut (by kernel_rfl) (of_decide_eq_true (by kernel_rfl)) k0 bel lt0) trodAll_mk0),rfl,bel.frame _,fun h=>by cases h⟩
theorem over:Rows.fnOwnLoanRow.holds Tryz.pinned (OpenSpec.ofChange Rows.fnOwnLoanSpec) :=
 OpenClaim.holds_of_wide 6 Tryz.f6 rfl rfl rfl rfl rfl rfl rfl ⟨rfl,rfl,rfl,rfl,rfl⟩ rfl rfl rfl rfl rfl (by kernel_rfl) Tryz.func6 (by kernel_rfl)
  (of_decide_eq_true (by kernel_rfl)) (by unfold Func.isWrapper;first | (rw [if_pos (by decide +kernel)];kernel_rfl) | (rw [if_neg (by decide +kernel)];exact ⟨rfl,rfl⟩))
  (fun os started H enc _=>lifted os started H enc)
set_option maxRecDepth 100000 in
theorem proved:Rows.FnOwnLoanCardSaid :=
 Claim7.holds_tied_plain_at .later [] [.data] true (true, "20a3894989218b0769602756e3096f731b7b576747fe359447f5159343af2ab9") false
  over (fun _ h=>by cases h) (by kernel_rfl) (fun _ h=>by cases h) fnOwnLoan_row_tie rfl ⟨rfl,rfl⟩ (by kernel_rfl) rfl
  (fun f fn hf hfn=>by
   obtain rfl:f=6:=Option.some.inj ((show Tryz.prog.funcNamed "loop.example/borrowcheck/laws.FnOwnLoan" = some 6 by kernel_rfl).symm.trans hf) |>.symm
   obtain rfl:fn=Tryz.f6:=(Option.some.inj (Tryz.func6.symm.trans hfn)).symm
   exact ⟨by kernel_rfl,fun j t ht=>by
    rw [Tryz.params6] at ht
    have hm:t∈[22]:=by simpa using Array.mem_of_getElem? ht
    have hall:([22].all fun u=>!Tryz.prog.wantsStandIn u)=true:=by kernel_rfl
    exact (show Tryz.prog.wantsStandIn t=false by simpa using List.all_eq_true.1 hall t hm)⟩)
  (by kernel_rfl)
#print axioms proved
end Go.Proofs.YtopibompapopiaaGreatDoor.fnOwnLoan
