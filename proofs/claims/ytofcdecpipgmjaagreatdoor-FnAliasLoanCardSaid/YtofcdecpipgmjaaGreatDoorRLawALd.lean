/-
  Whatever the bytes: what a loan sets can alias what it is made from,and what can alias is the model's. Conditions: none.
-/
import Derived.Test.YtofcdecpipgmjaaGreatDoorRPuG
import Derived.Test.YtofcdecpipgmjaaGreatDoorRBcG
import Derived.Test.YtofcdecpipgmjaaGreatDoorRTrP
import Derived.Test.YtofcdecpipgmjaaGreatDoorRLoIG
import Derived.Test.YtofcdecpipgmjaaGreatDoorRDrXM
import Derived.Test.YtofcdecpipgmjaaGreatDoorRTrS
import Derived.Test.YtofcdecpipgmjaaGreatDoorRTrI
import Derived.Test.YtofcdecpipgmjaaGreatDoorRPoX
import Derived.Test.YtofcdecpipgmjaaGreatDoorRTab
import Derived.Test.YtofcdecpipgmjaaGreatDoorRows
import Derived.Test.YtofcdecpipgmjaaGreatDoorCards
import Derived.Test.YtofcdecpipgmjaaGreatDoorTie
import Derived.LaidMore
import Derived.SevenTiedAt
import Derived.WalkKit
import Derived.ProofKit
import Derived.OpenShut
import Derived.Lib.SmallJoins
import Derived.Deep.RegionHeld3
namespace Go.Proofs.YtofcdecpipgmjaaGreatDoor.fnAliasLoan
open Go.ChangeShapes Go.WideShapes Go.ChangeAt Go.RowKit Go.Deep Go.Joins
set_option linter.unusedVariables false
theorem rowI_formN {w:World} {B n:Nat} {v:Value} {xs:List Int} (h:RowI w B v xs) (hn:xs.length=n):∃ A c,v=.slice A n c∧n≤c∧c≤maxLen:=by
 obtain ⟨A,c,h1,h2,h3,_⟩:=own_form h.own
 subst hn
 exact ⟨A,c,h1,h2,h3⟩
theorem rowI_form {w:World} {B:Nat} {v:Value} {xs:List Int} (h:RowI w B v xs):∃ A c,v=.slice A xs.length c∧xs.length≤c∧c≤maxLen:=rowI_formN h rfl
theorem points_len9 (ok:Bool) (s:Sts) (h:s.size≤40000):(pointsB ok s).length≤100000:=by
 unfold pointsB
 split
 ·rw [progPts_len]
  have:=s.npts_le
  omega
 ·simp
theorem ans_has {q:Nat} {ts:List Int} {s:Sts} {a v z:Int} {l3:List Int} (h3:AnsAt (tr.TrIn q ts v) (validB ts s) s a l3) (hz:z∈l3):∃ (k u:Nat),validB ts s=true∧0≤a∧a<((progPts s).length:Int)∧z=(k:Int)∧v=(u:Int)∧u<6∧tr.TrB q ts (progPts s) a.toNat u k:=by
 obtain ⟨hv,h0,h1,k,rfl,hk⟩:=(h3.mem z).1 hz
 obtain ⟨hv0,hv6,hb⟩:=(show tr.TrIn q ts v (progPts s) a.toNat k from hk)
 exact ⟨k,v.toNat,hv,h0,h1,rfl,by omega,by omega,hb⟩
theorem ans_some {R:List Nd→Nat→Nat→Prop} {ok:Bool} {s:Sts} {a:Int} {l3:List Int} (hne:l3.length≠0):∃ z,z∈l3:=by
 cases l3 with
 | nil=>exact absurd rfl hne
 | cons z _=>exact ⟨z,by simp⟩
theorem in_reach {ts:List Int} {s:Sts} {a v:Int} {l:List Int} (h:AnsAt (tr.TrIn 0 ts v) (validB ts s) s a l) (z:Int):z∈l↔∃ k:Nat,z=(k:Int)∧tr.reachT ts s a v k:=by
 rw [h.mem]
 constructor
 ·rintro ⟨hv,h0,h1,k,rfl,g0,g6,hb⟩
  exact ⟨k,rfl,g0,g6,hv,h0,h1,hb⟩
 ·rintro ⟨k,rfl,g0,g6,hv,h0,h1,hb⟩
  exact ⟨hv,h0,h1,k,rfl,g0,g6,hb⟩
theorem alias_facts {ts:List Int} {s:Sts} {j z:Nat} {d:Nd} (hv:validB ts s=true) (hd:(progPts s)[j]?=some d) (hop:d.op=4∨d.op=5) (hzL:z<(progPts s).length) (he:eN (progPts s) j z) {l:List Int} (h:AnsAt (tr.TrIn 0 ts d.y) (validB ts s) s (j:Int) l) (hp:0<l.length):tr.mayB ts s (z:Int) d.x d.y=true:=by
 obtain ⟨z',hz'⟩:=List.exists_mem_of_length_pos hp
 obtain ⟨k,-,g0,g6,-,h0,h1,hb⟩:=(in_reach h z').1 hz'
 have hA:=progPts_allTyped hv
 have hxy:=(effD_ok hA.1 (hA.2 j d hd)).xy
 rw [Int.toNat_natCast] at hb
 obtain ⟨v,hx⟩:∃ v:Nat,d.x=(v:Int):=⟨d.x.toNat,by omega⟩
 obtain ⟨u,hy⟩:∃ u:Nat,d.y=(u:Int):=⟨d.y.toNat,by omega⟩
 rw [hy,Int.toNat_natCast] at hb
 obtain ⟨r1,r2⟩:=tr.loan_alias hA hd hop hx hy (by omega) (by omega) he hb
 refine tr.mayB_iff.mpr ⟨k,⟨by omega,by omega,hv,by omega,by omega,?_⟩,⟨by omega,by omega,hv,by omega,by omega,?_⟩⟩
 ·rw [hx,Int.toNat_natCast,Int.toNat_natCast];exact r1
 ·rw [hy,Int.toNat_natCast,Int.toNat_natCast];exact r2
theorem len_one {R:List Nd→Nat→Nat→Prop} (ok:Bool) (s:Sts) (a:Int):∃ bo:Bool,∀ l,AnsAt R ok s a l→decide ((0:Int)<(l.length:Int))=bo:=by
 by_cases h:∃ l,AnsAt R ok s a l
 ·obtain ⟨l,hl⟩:=h
  exact ⟨_,fun l' hl'=>by rw [hl'.unique hl]⟩
 ·exact ⟨true,fun l hl=>absurd ⟨l,hl⟩ h⟩
set_option maxRecDepth 100000 in
set_option maxHeartbeats 2000000 in
theorem walk (n0 c0:Nat) (A0:Option Addr) (W:World) (hB:ByteV W W.heap.size n0 A0 c0) (hTab:TabAt 0 Lib.deBruijn64tab W) (hg:0<W.heap.size) :
  Calls Tryz.prog 11 #[.slice A0 n0 c0] W fun e w'=>e=.returned (.bool true)∧Below W.heap.size W w':=by
 have hnc:=hB.1
 have hcm:=hB.2.1
 unfold maxLen at hcm
 by_cases hn:1048576<n0
 ·go_enter Tryz.func11,Tryz.ntmps11
  go_wp2_with fail
  go_ret
  exact ⟨rfl,Below.refl _ _⟩
 have e1:decide (1048576<(n0:Int))=false:=decide_eq_false (by omega)
 have HD:=Lib.hid (drawMayAlias_any n0 c0 A0 W hB)
 clear hB
 go_enter Tryz.func11,Tryz.ntmps11
 go_wp2_with fail
 refine HD.out.mono ?_
 rintro E w1 ⟨ts,s,At,As,ct,cs,a,v,u,rfl,hr1,ht1,hs1,hq,hb1⟩
 have h1s:=hb1.size
 obtain ⟨n,hn⟩:∃ n,ts.length=n:=⟨_,rfl⟩
 obtain ⟨m,hm⟩:∃ m,s.len=m:=⟨_,rfl⟩
 rw [hn,hm]
 have hn9:n≤1000:=by omega
 have HN:=Lib.hid hn
 have HM:=Lib.hid hm
 have HSZ:=Lib.hid hs1
 have hba:=(Below.refl w1.heap.size w1).alloc (Nat.le_refl _) (.cells #[.slice At n ct,.slice As m cs] 26)
 have h2n:=heap_alloc_new w1 (.cells #[.slice At n ct,.slice As m cs] 26)
 have h2z:w1.heap.size+1≤(w1.alloc (.cells #[.slice At n ct,.slice As m cs] 26)).heap.size:=Nat.le_of_eq (by simp)
 obtain ⟨w2,hw2⟩:∃ w2,w1.alloc (.cells #[.slice At n ct,.slice As m cs] 26)=w2:=⟨_,rfl⟩
 have T2:=Lib.hid (hr1.1.below hba (Nat.le_trans (Nat.le_refl _) hba.size))
 have R2:=Lib.hid (hr1.2.below hba (Nat.le_trans (Nat.le_refl _) hba.size))
 have B2:=Lib.hid (hb1.trans (hba.mono h1s))
 rw [hw2] at T2 R2 B2 h2n h2z
 have P2:=Lib.hid h2n
 clear hn hm hba hr1 ht1 hs1 hb1 h2n HD
 obtain ⟨PB,hPB⟩:∃ PB,w1.heap.size=PB:=⟨_,rfl⟩
 rw [hPB] at P2 h2z h1s
 have hPW:W.heap.size≤PB:=h1s
 have hP2:PB<w2.heap.size:=h2z
 obtain ⟨ns,hns⟩:∃ ns,pointsB (validB ts s) s=ns:=⟨_,rfl⟩
 obtain ⟨L,hL⟩:∃ L,ns.length=L:=⟨_,rfl⟩
 have hL9:L≤100000:=by rw [← hL,← hns];exact points_len9 _ _ HSZ.out
 have HNS:=Lib.hid hns
 have HLL:=Lib.hid hL
 clear hns hL
 obtain ⟨ok,hok⟩:∃ ok,tr.mayB ts s a v u=ok:=⟨_,rfl⟩
 have HOK:=Lib.hid hok
 have hoo:(ok != ok)=false:=by simp
 clear hok
 have H1:Hid (∀ w',Below w2.heap.size w2 w'→Calls Tryz.prog 23 #[.agg #[.slice At n ct,.slice As m cs],.int .i64 a,.int .i64 v,.int .i64 u] w' fun E w''=>E=.returned (.bool ok)∧Below w'.heap.size w' w''):=fun w' hb=>by
  have h:=tr.implMayAlias_any ts s At As ct cs a v u w' (T2.out.below hb hb.size) (R2.out.below hb hb.size) (tab_below hTab hg (B2.out.trans (hb.mono (by have:=B2.out.size;omega)))) (by have:=B2.out.size;have:=hb.size;omega)
  rw [HN.out,HM.out,HOK.out] at h
  exact h
 have H2:Hid (∀ w',Below w2.heap.size w2 w'→Calls Tryz.prog 24 #[.agg #[.slice At n ct,.slice As m cs],.int .i64 a,.int .i64 v,.int .i64 u] w' fun E w''=>E=.returned (.bool ok)∧Below w'.heap.size w' w''):=fun w' hb=>by
  have h:=tr.specMayAlias_any ts s At As ct cs a v u w' (by have:=HSZ.out;omega) (T2.out.below hb hb.size) (R2.out.below hb hb.size)
  rw [HN.out,HM.out,HOK.out] at h
  exact h
 have p0:w2.cell? ⟨PB,0,none⟩=some (.slice At n ct):=(cB P2.out 0).trans rfl
 have p1:w2.cell? ⟨PB,1,none⟩=some (.slice As m cs):=(cB P2.out 1).trans rfl
 have HS:Hid (∀ w',Below w2.heap.size w2 w'→(Below w2.heap.size w2 w'∧w'.cell? ⟨PB,0,none⟩=some (.slice At n ct)∧w'.cell? ⟨PB,1,none⟩=some (.slice As m cs))):=fun w' hb=>⟨hb,(hb.cell (by have:=B2.out.size;omega)).trans p0,(hb.cell (by have:=B2.out.size;omega)).trans p1⟩
 go_upto_region 4 with (fail)
 clear hw2 hPB
 go_region_held3 (fun w'=>Below w2.heap.size w2 w'∧w'.cell? ⟨PB,0,none⟩=some (.slice At n ct)∧w'.cell? ⟨PB,1,none⟩=some (.slice As m cs))
  (first | with_reducible exact HS.out _ ((Below.refl w2.heap.size w2).drew) | with_reducible exact HS.out _ (Below.refl w2.heap.size w2) | with_reducible exact HS.out _ ((And.left ‹Below w2.heap.size w2 _∧_›).trans (hbn.mono (And.left ‹Below w2.heap.size w2 _∧_›).size)))
  (first
   | (go_at_call 23;(with_reducible refine (H1.out _ (And.left ‹Below w2.heap.size w2 _∧_›)).mono ?_);rintro E w' ⟨rfl,hbn⟩)
   | (go_at_call 24;(with_reducible refine (H2.out _ (And.left ‹Below w2.heap.size w2 _∧_›)).mono ?_);rintro E w' ⟨rfl,hbn⟩))
 all_goals
  obtain ⟨hb4,-⟩:=‹Below w2.heap.size w2 _∧_›
  clear H1 H2 HS p0 p1
  obtain ⟨w4,hw4⟩:∃ w4,w4=w':=⟨_,rfl⟩
  rw [← hw4] at hb4 ⊢
  clear hw4
  have hz4:=hb4.size
  have T4:=Lib.hid (T2.out.below hb4 hz4)
  have R4:=Lib.hid (R2.out.below hb4 hz4)
  have P4:=Lib.hid ((hb4.block PB (by omega)).trans P2.out)
  have B4:=Lib.hid (B2.out.trans (hb4.mono (by omega)))
  have hP4:PB<w4.heap.size:=by omega
  clear hb4
  have HC:=implLoansOf_any ts s At As ct cs w4 T4.out R4.out (tab_below hTab hg B4.out) (by have:=B4.out.size;omega)
  rw [HN.out,HM.out] at HC
  replace HC:=Lib.hid HC
  have p0:w4.cell? ⟨PB,0,none⟩=some (.slice At n ct):=(cB P4.out 0).trans rfl
  have p1:w4.cell? ⟨PB,1,none⟩=some (.slice As m cs):=(cB P4.out 1).trans rfl
  go_wp2_with fail
  refine HC.out.mono ?_
  rintro E w6 ⟨v6,l6,rfl,hrow6,hans6,hb6⟩
  have N6:=Lib.hid hrow6.reads
  have HA6:=Lib.hid hans6
  have hz6:=hb6.size
  have T6:=Lib.hid (T4.out.below hb6 hz6)
  have R6:=Lib.hid (R4.out.below hb6 hz6)
  have P6:=Lib.hid ((hb6.block PB (by omega)).trans P4.out)
  have B6:=Lib.hid (B4.out.trans (hb6.mono (by omega)))
  have hP6:PB<w6.heap.size:=by omega
  obtain ⟨A6,c6,hv6,hc6,hmx6,-⟩:=id N6.out
  obtain ⟨q6,hl6⟩:∃ q,l6.length=q:=⟨_,rfl⟩
  rw [hl6] at hv6 hc6
  subst hv6
  unfold maxLen at hmx6
  have HL6:=Lib.hid hl6
  clear hrow6 hans6 hb6 HC p0 p1 hl6
  have HC:=implPointsOf_any ts s At As ct cs w6 T6.out R6.out
  rw [HN.out,HM.out,HNS.out] at HC
  replace HC:=Lib.hid HC
  have p0:w6.cell? ⟨PB,0,none⟩=some (.slice At n ct):=(cB P6.out 0).trans rfl
  have p1:w6.cell? ⟨PB,1,none⟩=some (.slice As m cs):=(cB P6.out 1).trans rfl
  go_wp2_with fail
  refine HC.out.mono ?_
  rintro E w7 ⟨v7,us7,rfl,hrow7,hb7⟩
  have V7:=Lib.hid hrow7.reads
  have hz7:=hb7.size
  have T7:=Lib.hid (T6.out.below hb7 hz7)
  have R7:=Lib.hid (R6.out.below hb7 hz7)
  have P7:=Lib.hid ((hb7.block PB (by omega)).trans P6.out)
  have B7:=Lib.hid (B6.out.trans (hb7.mono (by omega)))
  have hP7:PB<w7.heap.size:=by omega
  have N6:=Lib.hid (N6.out.below hb7)
  obtain ⟨A7,c7,hv7,hc7,hmx7,-⟩:=id V7.out
  rw [HLL.out] at hv7 hc7
  subst hv7
  unfold maxLen at hmx7
  clear hrow7 hb7 HC p0 p1
  go_wp2_with fail
  go_loopw [9] (fun i wr=>∃ k:Nat,k≤q6∧i=.int .i64 k∧Below w7.heap.size w7 wr) (fun i _=>q6-(intOf i).toNat)
  case atStart=>exact ⟨0,Nat.zero_le _,rfl,Below.refl _ _⟩
  case round =>
   obtain ⟨k,hk,rfl,hb⟩:=hrel
   have hzr:=hb.size
   have Tr:=Lib.hid (T7.out.below hb hzr)
   have Rr:=Lib.hid (R7.out.below hb hzr)
   have Pr:=Lib.hid ((hb.block PB (by omega)).trans P7.out)
   have Br:=Lib.hid (B7.out.trans (hb.mono (by omega)))
   have hPr:PB<wr.heap.size:=by omega
   have N6:=Lib.hid (N6.out.below hb)
   have V7:=Lib.hid (V7.out.below hb)
   by_cases hlt:k<q6
   ·have hq9:q6≤9223372036854775807:=by omega
    have f1:IntKind.i64.wrap ((k:Int)+1)=(k:Int)+1:=IntWalk.i64_in _ (by omega)
    obtain ⟨A1,c1,e1,-,-,h4⟩:=id N6.out
    injection e1 with e1 e1m e1'
    subst e1 e1'
    obtain ⟨g,hg0,hgl,hcc⟩:=h4 (by rw [HL6.out];omega)
    subst hg0
    obtain ⟨x,hx⟩:∃ x,l6[k]?=some x:=⟨l6[k]'(by rw [HL6.out];exact hlt),List.getElem?_eq_getElem _⟩
    obtain ⟨k0,k1,k2⟩:=hcc k x hx
    obtain ⟨hv,j,d,hd,hop,hxe⟩:=HA6.out.at hx
    subst hxe
    simp only at k0 k1 k2
    have hns:ns=progPts s:=by rw [← HNS.out,hv];rfl
    have hjL:j<L:=by rw [← HLL.out,hns];exact (List.getElem?_eq_some_iff.1 hd).1
    clear h4 hcc e1m hx
    obtain ⟨A1,c1,e1,-,-,h4⟩:=id V7.out
    injection e1 with e1 e1m e1'
    subst e1 e1'
    obtain ⟨g2,hg0,hgl2,hcc⟩:=h4 (by rw [HLL.out];omega)
    subst hg0
    obtain ⟨Au,cu,⟨a0,a1,a2,a3,a4⟩,hI⟩:=hcc j d (by rw [hns];exact hd)
    obtain ⟨z,hz0,hzl,hzL,hze⟩:=loan_next hd hop
    obtain ⟨b0,z',rfl,-,hbb,hxz,hc⟩:=hI.elem (k:=0) hzl
    rw [hz0] at hxz
    injection hxz with hxz
    subst hxz
    have hc0:wr.cell? b0=some (.int .i64 (z:Int)):=by rw [← hc];congr 1
    obtain ⟨nl,hnl⟩:∃ nl,d.next.length=nl:=⟨_,rfl⟩
    rw [hnl] at a4 hzl
    have HV:=Lib.hid hv
    have HD:=Lib.hid hd
    have HOP:=Lib.hid hop
    have HZE:=Lib.hid hze
    have HZL:=Lib.hid hzL
    clear h4 hcc e1m hI hz0 hc hnl hv hd hop hze hzL hns
    obtain ⟨y,hy⟩:∃ y,d.y=y:=⟨_,rfl⟩
    obtain ⟨x,hx⟩:∃ x,d.x=x:=⟨_,rfl⟩
    obtain ⟨bo,hbo⟩:=len_one (R:=tr.TrIn 0 ts y) (validB ts s) s (j:Int)
    have HBO:=Lib.hid hbo
    have HMA:Hid (∀ l,AnsAt (tr.TrIn 0 ts y) (validB ts s) s (j:Int) l→0<l.length→tr.mayB ts s (z:Int) x y=true):=fun l hl hp=>by
     rw [← hx,← hy]
     rw [← hy] at hl
     exact alias_facts HV.out HD.out HOP.out HZL.out HZE.out hl hp
    rw [hy] at k2
    rw [hx] at a1
    clear hbo hy hx k1 a0 a2 a3
    cases bo
    ·have HCE:Hid (∀ w',Below wr.heap.size wr w'→Calls Tryz.prog 13 #[.agg #[.slice At n ct,.slice As m cs],.int .i64 j,.int .i64 y] w' fun E w''=>∃ (A:Option Addr) (c:Nat) (l:List Int) (q:Nat),E=.returned (.slice A q c)∧l.length=q∧IntsV w'' 0 w''.heap.size l A c∧decide ((0:Int)<(l.length:Int))=false∧AnsAt (tr.TrIn 0 ts y) (validB ts s) s (j:Int) l∧Below w'.heap.size w' w''):=fun w' hb=>by
      have h:=tr.implCellsOf_any ts s At As ct cs j y w' (Tr.out.below hb hb.size) (Rr.out.below hb hb.size) (tab_below hTab hg (Br.out.trans (hb.mono (by have:=Br.out.size;omega)))) (by have:=Br.out.size;have:=hb.size;omega)
      rw [HN.out,HM.out] at h
      refine h.mono ?_
      rintro E w'' ⟨v,l,rfl,hrow,hans,hb2⟩
      obtain ⟨A,c,hv,-,-⟩:=rowI_formN hrow rfl
      subst hv
      exact ⟨A,c,l,_,rfl,rfl,hrow.intsV,HBO.out _ hans,hans,hb2⟩
     have p0:wr.cell? ⟨PB,0,none⟩=some (.slice At n ct):=(cB Pr.out 0).trans rfl
     have p1:wr.cell? ⟨PB,1,none⟩=some (.slice As m cs):=(cB Pr.out 1).trans rfl
     have HK0:=Lib.hid k0
     have HK2:=Lib.hid k2
     have HA4:=Lib.hid a4
     have HA1:=Lib.hid a1
     have HC0:=Lib.hid hc0
     have hjl9:(j:Int)<(L:Int):=by omega
     have hj09:(0:Int)≤(j:Int):=by omega
     have hkl9:(k:Int)<(q6:Int):=by omega
     have hk09:(0:Int)≤(k:Int):=by omega
     have hnl9:(0:Int)<(nl:Int):=by omega
     go_upto_region 12 with (fail)
     refine wp_region_held_drew (S:=(fun w9=>Below wr.heap.size wr w9)) (by kernel_rfl) (Below.refl _ _).drew (fun hHeld=>?_)
     generalize hwd:wr.drew=wd at *
     clear hwd
     refine wpAnyH_take (i:=0) (oi:=⟨_,_,_,_,_,_⟩) (v:=.agg #[.slice At n ct,.slice As m cs]) rfl (by kernel_rfl) (by kernel_rfl) (by kernel_rfl) (fun _ _ _ h=>h) (Or.inl ⟨by rfl,fun w9 hSw=>by have h9:=(hSw.cell (p:=⟨PB,0,none⟩) (by show PB<_;omega)).trans p0;have h8:=(hSw.cell (p:=⟨PB,1,none⟩) (by show PB<_;omega)).trans p1;go_simp⟩) hHeld ?_
     try simp only [Act.put,sA,sB,sC]
     refine wpAnyH_take (i:=1) (oi:=⟨_,_,_,_,_,_⟩) (v:=.int .i64 (j:Int)) rfl (by kernel_rfl) (by kernel_rfl) (by kernel_rfl) (fun _ _ _ h=>h) (Or.inl ⟨by rfl,fun w9 hSw=>by go_simp⟩) hHeld ?_
     try simp only [Act.put,sA,sB,sC]
     refine wpAnyH_take (i:=2) (oi:=⟨_,_,_,_,_,_⟩) (v:=.slice (some ⟨g,0,none⟩) q6 c6) rfl (by kernel_rfl) (by kernel_rfl) (by kernel_rfl) (fun _ _ _ h=>h) (Or.inl ⟨by rfl,fun w9 hSw=>by go_simp⟩) hHeld ?_
     try simp only [Act.put,sA,sB,sC]
     refine wpAnyH_take (i:=3) (oi:=⟨_,_,_,_,_,_⟩) (v:=.int .i64 (k:Int)) rfl (by kernel_rfl) (by kernel_rfl) (by kernel_rfl) (fun _ _ _ h=>h) (Or.inl ⟨by rfl,fun w9 hSw=>by go_simp⟩) hHeld ?_
     try simp only [Act.put,sA,sB,sC]
     refine wpAnyH_ready (rs:=[4]) (by kernel_rfl) (by simp) ?_
     refine AllReadyH.cons (o:=⟨_,_,_,_,_,_⟩) rfl (fun K hK=>?_) AllReadyH.nil
     go_simp
     refine hK.out _ _ hHeld (fun hHeld=>?_)
     clear hK K
     refine wpAnyH_ready (rs:=[5]) (by kernel_rfl) (by simp) ?_
     refine AllReadyH.cons (o:=⟨_,_,_,_,_,_⟩) rfl (fun K hK=>?_) AllReadyH.nil
     go_simp
     refine hK.out _ _ hHeld (fun hHeld=>?_)
     clear hK K
     clear k2
     have k2:=(hHeld.cell (p:=⟨g,k*3+2,none⟩) (by first | (show g<_;omega) | omega)).trans HK2.out
     refine wpAnyH_ready (rs:=[6]) (by kernel_rfl) (by simp) ?_
     refine AllReadyH.cons (o:=⟨_,_,_,_,_,_⟩) rfl (fun K hK=>?_) AllReadyH.nil
     go_simp
     refine hK.out _ _ hHeld (fun hHeld=>?_)
     clear hK K
     clear k2
     refine wpAnyH_ready (rs:=[7]) (by kernel_rfl) (by simp) ?_
     refine AllReadyH.cons (o:=⟨_,_,_,_,_,_⟩) rfl (fun K hK=>?_) AllReadyH.nil
     have hc9:=HCE.out _ hHeld
     go_simp
     refine hc9.mono ?_
     rintro E w11 ⟨A9,c9,l9,q9,rfl,hq9,hI9,hin9,hans9,hbn⟩
     rw [hq9] at hin9
     have hin8:decide (0<q9)=false:=by rw [← hin9];exact decide_eq_decide.mpr (by omega)
     refine hK.out _ _ (hHeld.trans (hbn.mono hHeld.size)) (fun hHeld=>?_)
     clear hK K hc9 hbn
     refine wpAnyH_ready (rs:=[8]) (by kernel_rfl) (by simp) ?_
     refine AllReadyH.cons (o:=⟨_,_,_,_,_,_⟩) rfl (fun K hK=>?_) AllReadyH.nil
     go_simp
     refine hK.out _ _ hHeld (fun hHeld=>?_)
     clear hK K
     refine wpAnyH_ready (rs:=[9]) (by kernel_rfl) (by simp) ?_
     refine AllReadyH.cons (o:=⟨_,_,_,_,_,_⟩) rfl (fun K hK=>?_) AllReadyH.nil
     go_simp
     refine hK.out _ _ hHeld (fun hHeld=>?_)
     clear hK K
     refine wpAnyH_ready (rs:=[10]) (by kernel_rfl) (by simp) ?_
     refine AllReadyH.cons (o:=⟨_,_,_,_,_,_⟩) rfl (fun K hK=>?_) AllReadyH.nil
     go_simp
     refine hK.out _ _ hHeld (fun hHeld=>?_)
     clear hK K
     refine wpAnyH_take (i:=11) (oi:=⟨_,_,_,_,_,_⟩) (v:=undef) rfl (by kernel_rfl) (by kernel_rfl) (by kernel_rfl) (fun _ _ _ h=>h) (Or.inr ⟨by rfl,rfl⟩) hHeld ?_
     try simp only [Act.put,sA,sB,sC]
     refine wpAnyH_take (i:=12) (oi:=⟨_,_,_,_,_,_⟩) (v:=undef) rfl (by kernel_rfl) (by kernel_rfl) (by kernel_rfl) (fun _ _ _ h=>h) (Or.inr ⟨by rfl,rfl⟩) hHeld ?_
     try simp only [Act.put,sA,sB,sC]
     refine wpAnyH_take (i:=13) (oi:=⟨_,_,_,_,_,_⟩) (v:=undef) rfl (by kernel_rfl) (by kernel_rfl) (by kernel_rfl) (fun _ _ _ h=>h) (Or.inr ⟨by rfl,rfl⟩) hHeld ?_
     try simp only [Act.put,sA,sB,sC]
     refine wpAnyH_take (i:=14) (oi:=⟨_,_,_,_,_,_⟩) (v:=undef) rfl (by kernel_rfl) (by kernel_rfl) (by kernel_rfl) (fun _ _ _ h=>h) (Or.inr ⟨by rfl,rfl⟩) hHeld ?_
     try simp only [Act.put,sA,sB,sC]
     refine wpAnyH_take (i:=15) (oi:=⟨_,_,_,_,_,_⟩) (v:=undef) rfl (by kernel_rfl) (by kernel_rfl) (by kernel_rfl) (fun _ _ _ h=>h) (Or.inr ⟨by rfl,rfl⟩) hHeld ?_
     try simp only [Act.put,sA,sB,sC]
     refine wpAnyH_take (i:=16) (oi:=⟨_,_,_,_,_,_⟩) (v:=undef) rfl (by kernel_rfl) (by kernel_rfl) (by kernel_rfl) (fun _ _ _ h=>h) (Or.inr ⟨by rfl,rfl⟩) hHeld ?_
     try simp only [Act.put,sA,sB,sC]
     refine wpAnyH_take (i:=17) (oi:=⟨_,_,_,_,_,_⟩) (v:=undef) rfl (by kernel_rfl) (by kernel_rfl) (by kernel_rfl) (fun _ _ _ h=>h) (Or.inr ⟨by rfl,rfl⟩) hHeld ?_
     try simp only [Act.put,sA,sB,sC]
     refine wpAnyH_take (i:=18) (oi:=⟨_,_,_,_,_,_⟩) (v:=undef) rfl (by kernel_rfl) (by kernel_rfl) (by kernel_rfl) (fun _ _ _ h=>h) (Or.inr ⟨by rfl,rfl⟩) hHeld ?_
     try simp only [Act.put,sA,sB,sC]
     refine wpAnyH_take (i:=19) (oi:=⟨_,_,_,_,_,_⟩) (v:=undef) rfl (by kernel_rfl) (by kernel_rfl) (by kernel_rfl) (fun _ _ _ h=>h) (Or.inr ⟨by rfl,rfl⟩) hHeld ?_
     try simp only [Act.put,sA,sB,sC]
     refine wpAnyH_take (i:=20) (oi:=⟨_,_,_,_,_,_⟩) (v:=undef) rfl (by kernel_rfl) (by kernel_rfl) (by kernel_rfl) (fun _ _ _ h=>h) (Or.inr ⟨by rfl,rfl⟩) hHeld ?_
     try simp only [Act.put,sA,sB,sC]
     refine wpAnyH_take (i:=21) (oi:=⟨_,_,_,_,_,_⟩) (v:=undef) rfl (by kernel_rfl) (by kernel_rfl) (by kernel_rfl) (fun _ _ _ h=>h) (Or.inr ⟨by rfl,rfl⟩) hHeld ?_
     try simp only [Act.put,sA,sB,sC]
     refine wpAnyH_take (i:=22) (oi:=⟨_,_,_,_,_,_⟩) (v:=undef) rfl (by kernel_rfl) (by kernel_rfl) (by kernel_rfl) (fun _ _ _ h=>h) (Or.inr ⟨by rfl,rfl⟩) hHeld ?_
     try simp only [Act.put,sA,sB,sC]
     refine wpAnyH_take (i:=23) (oi:=⟨_,_,_,_,_,_⟩) (v:=undef) rfl (by kernel_rfl) (by kernel_rfl) (by kernel_rfl) (fun _ _ _ h=>h) (Or.inr ⟨by rfl,rfl⟩) hHeld ?_
     try simp only [Act.put,sA,sB,sC]
     refine wpAnyH_take (i:=24) (oi:=⟨_,_,_,_,_,_⟩) (v:=undef) rfl (by kernel_rfl) (by kernel_rfl) (by kernel_rfl) (fun _ _ _ h=>h) (Or.inr ⟨by rfl,rfl⟩) hHeld ?_
     try simp only [Act.put,sA,sB,sC]
     refine wpAnyH_take (i:=25) (oi:=⟨_,_,_,_,_,_⟩) (v:=undef) rfl (by kernel_rfl) (by kernel_rfl) (by kernel_rfl) (fun _ _ _ h=>h) (Or.inr ⟨by rfl,rfl⟩) hHeld ?_
     try simp only [Act.put,sA,sB,sC]
     refine wpAnyH_take (i:=26) (oi:=⟨_,_,_,_,_,_⟩) (v:=undef) rfl (by kernel_rfl) (by kernel_rfl) (by kernel_rfl) (fun _ _ _ h=>h) (Or.inr ⟨by rfl,rfl⟩) hHeld ?_
     try simp only [Act.put,sA,sB,sC]
     refine wpAnyH_take (i:=27) (oi:=⟨_,_,_,_,_,_⟩) (v:=undef) rfl (by kernel_rfl) (by kernel_rfl) (by kernel_rfl) (fun _ _ _ h=>h) (Or.inr ⟨by rfl,rfl⟩) hHeld ?_
     try simp only [Act.put,sA,sB,sC]
     refine wpAnyH_take (i:=28) (oi:=⟨_,_,_,_,_,_⟩) (v:=undef) rfl (by kernel_rfl) (by kernel_rfl) (by kernel_rfl) (fun _ _ _ h=>h) (Or.inr ⟨by rfl,rfl⟩) hHeld ?_
     try simp only [Act.put,sA,sB,sC]
     refine wpAnyH_take (i:=29) (oi:=⟨_,_,_,_,_,_⟩) (v:=undef) rfl (by kernel_rfl) (by kernel_rfl) (by kernel_rfl) (fun _ _ _ h=>h) (Or.inr ⟨by rfl,rfl⟩) hHeld ?_
     try simp only [Act.put,sA,sB,sC]
     refine wpAnyH_take (i:=30) (oi:=⟨_,_,_,_,_,_⟩) (v:=undef) rfl (by kernel_rfl) (by kernel_rfl) (by kernel_rfl) (fun _ _ _ h=>h) (Or.inr ⟨by rfl,rfl⟩) hHeld ?_
     try simp only [Act.put,sA,sB,sC]
     refine wpAnyH_ready (rs:=[31]) (by kernel_rfl) (by simp) ?_
     refine AllReadyH.cons (o:=⟨_,_,_,_,_,_⟩) rfl (fun K hK=>?_) AllReadyH.nil
     go_simp
     refine hK.out _ _ hHeld (fun hHeld=>?_)
     clear hK K
     refine wpAnyH_done (by kernel_rfl) ?_ _
     have hB9:=hb.trans (hHeld.mono hzr)
     clear hHeld
     go_wp2_with fail
     go_roundw
     case rel=>exact ⟨k+1,by omega,by go_num,hB9⟩
     case measure=>simp [intOf];omega
    ·have HCE:Hid (∀ w',Below wr.heap.size wr w'→Calls Tryz.prog 13 #[.agg #[.slice At n ct,.slice As m cs],.int .i64 j,.int .i64 y] w' fun E w''=>∃ (A:Option Addr) (c:Nat) (l:List Int) (q:Nat),E=.returned (.slice A q c)∧l.length=q∧IntsV w'' 0 w''.heap.size l A c∧decide ((0:Int)<(l.length:Int))=true∧AnsAt (tr.TrIn 0 ts y) (validB ts s) s (j:Int) l∧Below w'.heap.size w' w''):=fun w' hb=>by
      have h:=tr.implCellsOf_any ts s At As ct cs j y w' (Tr.out.below hb hb.size) (Rr.out.below hb hb.size) (tab_below hTab hg (Br.out.trans (hb.mono (by have:=Br.out.size;omega)))) (by have:=Br.out.size;have:=hb.size;omega)
      rw [HN.out,HM.out] at h
      refine h.mono ?_
      rintro E w'' ⟨v,l,rfl,hrow,hans,hb2⟩
      obtain ⟨A,c,hv,-,-⟩:=rowI_formN hrow rfl
      subst hv
      exact ⟨A,c,l,_,rfl,rfl,hrow.intsV,HBO.out _ hans,hans,hb2⟩
     have HMC:Hid (∀ w',Below wr.heap.size wr w'→tr.mayB ts s (z:Int) x y=true→Calls Tryz.prog 23 #[.agg #[.slice At n ct,.slice As m cs],.int .i64 z,.int .i64 x,.int .i64 y] w' fun E w''=>E=.returned (.bool true)∧Below w'.heap.size w' w''):=fun w' hb h9=>by
      have h:=tr.implMayAlias_any ts s At As ct cs z x y w' (Tr.out.below hb hb.size) (Rr.out.below hb hb.size) (tab_below hTab hg (Br.out.trans (hb.mono (by have:=Br.out.size;omega)))) (by have:=Br.out.size;have:=hb.size;omega)
      rw [HN.out,HM.out,h9] at h
      exact h
     have p0:wr.cell? ⟨PB,0,none⟩=some (.slice At n ct):=(cB Pr.out 0).trans rfl
     have p1:wr.cell? ⟨PB,1,none⟩=some (.slice As m cs):=(cB Pr.out 1).trans rfl
     have HK0:=Lib.hid k0
     have HK2:=Lib.hid k2
     have HA4:=Lib.hid a4
     have HA1:=Lib.hid a1
     have HC0:=Lib.hid hc0
     have hjl9:(j:Int)<(L:Int):=by omega
     have hj09:(0:Int)≤(j:Int):=by omega
     have hkl9:(k:Int)<(q6:Int):=by omega
     have hk09:(0:Int)≤(k:Int):=by omega
     have hnl9:(0:Int)<(nl:Int):=by omega
     go_upto_region 12 with (fail)
     refine wp_region_held_drew (S:=(fun w9=>Below wr.heap.size wr w9)) (by kernel_rfl) (Below.refl _ _).drew (fun hHeld=>?_)
     generalize hwd:wr.drew=wd at *
     clear hwd
     refine wpAnyH_take (i:=0) (oi:=⟨_,_,_,_,_,_⟩) (v:=.agg #[.slice At n ct,.slice As m cs]) rfl (by kernel_rfl) (by kernel_rfl) (by kernel_rfl) (fun _ _ _ h=>h) (Or.inl ⟨by rfl,fun w9 hSw=>by have h9:=(hSw.cell (p:=⟨PB,0,none⟩) (by show PB<_;omega)).trans p0;have h8:=(hSw.cell (p:=⟨PB,1,none⟩) (by show PB<_;omega)).trans p1;go_simp⟩) hHeld ?_
     try simp only [Act.put,sA,sB,sC]
     refine wpAnyH_take (i:=1) (oi:=⟨_,_,_,_,_,_⟩) (v:=.int .i64 (j:Int)) rfl (by kernel_rfl) (by kernel_rfl) (by kernel_rfl) (fun _ _ _ h=>h) (Or.inl ⟨by rfl,fun w9 hSw=>by go_simp⟩) hHeld ?_
     try simp only [Act.put,sA,sB,sC]
     refine wpAnyH_take (i:=2) (oi:=⟨_,_,_,_,_,_⟩) (v:=.slice (some ⟨g,0,none⟩) q6 c6) rfl (by kernel_rfl) (by kernel_rfl) (by kernel_rfl) (fun _ _ _ h=>h) (Or.inl ⟨by rfl,fun w9 hSw=>by go_simp⟩) hHeld ?_
     try simp only [Act.put,sA,sB,sC]
     refine wpAnyH_take (i:=3) (oi:=⟨_,_,_,_,_,_⟩) (v:=.int .i64 (k:Int)) rfl (by kernel_rfl) (by kernel_rfl) (by kernel_rfl) (fun _ _ _ h=>h) (Or.inl ⟨by rfl,fun w9 hSw=>by go_simp⟩) hHeld ?_
     try simp only [Act.put,sA,sB,sC]
     refine wpAnyH_ready (rs:=[4]) (by kernel_rfl) (by simp) ?_
     refine AllReadyH.cons (o:=⟨_,_,_,_,_,_⟩) rfl (fun K hK=>?_) AllReadyH.nil
     go_simp
     refine hK.out _ _ hHeld (fun hHeld=>?_)
     clear hK K
     refine wpAnyH_ready (rs:=[5]) (by kernel_rfl) (by simp) ?_
     refine AllReadyH.cons (o:=⟨_,_,_,_,_,_⟩) rfl (fun K hK=>?_) AllReadyH.nil
     go_simp
     refine hK.out _ _ hHeld (fun hHeld=>?_)
     clear hK K
     clear k2
     have k2:=(hHeld.cell (p:=⟨g,k*3+2,none⟩) (by first | (show g<_;omega) | omega)).trans HK2.out
     refine wpAnyH_ready (rs:=[6]) (by kernel_rfl) (by simp) ?_
     refine AllReadyH.cons (o:=⟨_,_,_,_,_,_⟩) rfl (fun K hK=>?_) AllReadyH.nil
     go_simp
     refine hK.out _ _ hHeld (fun hHeld=>?_)
     clear hK K
     clear k2
     refine wpAnyH_ready (rs:=[7]) (by kernel_rfl) (by simp) ?_
     refine AllReadyH.cons (o:=⟨_,_,_,_,_,_⟩) rfl (fun K hK=>?_) AllReadyH.nil
     have hc9:=HCE.out _ hHeld
     go_simp
     refine hc9.mono ?_
     rintro E w11 ⟨A9,c9,l9,q9,rfl,hq9,hI9,hin9,hans9,hbn⟩
     rw [hq9] at hin9
     have hin8:decide (0<q9)=true:=by rw [← hin9];exact decide_eq_decide.mpr (by omega)
     have HMY:=Lib.hid (HMA.out _ hans9 (by rw [hq9];have h8:=of_decide_eq_true hin9;omega))
     refine hK.out _ _ (hHeld.trans (hbn.mono hHeld.size)) (fun hHeld=>?_)
     clear hK K hc9 hbn
     refine wpAnyH_ready (rs:=[8]) (by kernel_rfl) (by simp) ?_
     refine AllReadyH.cons (o:=⟨_,_,_,_,_,_⟩) rfl (fun K hK=>?_) AllReadyH.nil
     go_simp
     refine hK.out _ _ hHeld (fun hHeld=>?_)
     clear hK K
     refine wpAnyH_ready (rs:=[9]) (by kernel_rfl) (by simp) ?_
     refine AllReadyH.cons (o:=⟨_,_,_,_,_,_⟩) rfl (fun K hK=>?_) AllReadyH.nil
     go_simp
     refine hK.out _ _ hHeld (fun hHeld=>?_)
     clear hK K
     refine wpAnyH_ready (rs:=[10]) (by kernel_rfl) (by simp) ?_
     refine AllReadyH.cons (o:=⟨_,_,_,_,_,_⟩) rfl (fun K hK=>?_) AllReadyH.nil
     go_simp
     refine hK.out _ _ hHeld (fun hHeld=>?_)
     clear hK K
     refine wpAnyH_take (i:=11) (oi:=⟨_,_,_,_,_,_⟩) (v:=.agg #[.slice At n ct,.slice As m cs]) rfl (by kernel_rfl) (by kernel_rfl) (by kernel_rfl) (fun _ _ _ h=>h) (Or.inl ⟨by rfl,fun w9 hSw=>by have h9:=(hSw.cell (p:=⟨PB,0,none⟩) (by show PB<_;omega)).trans p0;have h8:=(hSw.cell (p:=⟨PB,1,none⟩) (by show PB<_;omega)).trans p1;go_simp⟩) hHeld ?_
     try simp only [Act.put,sA,sB,sC]
     refine wpAnyH_take (i:=12) (oi:=⟨_,_,_,_,_,_⟩) (v:=.slice (some ⟨g2,0,none⟩) L c7) rfl (by kernel_rfl) (by kernel_rfl) (by kernel_rfl) (fun _ _ _ h=>h) (Or.inl ⟨by rfl,fun w9 hSw=>by go_simp⟩) hHeld ?_
     try simp only [Act.put,sA,sB,sC]
     refine wpAnyH_take (i:=13) (oi:=⟨_,_,_,_,_,_⟩) (v:=.int .i64 (j:Int)) rfl (by kernel_rfl) (by kernel_rfl) (by kernel_rfl) (fun _ _ _ h=>h) (Or.inl ⟨by rfl,fun w9 hSw=>by go_simp⟩) hHeld ?_
     try simp only [Act.put,sA,sB,sC]
     refine wpAnyH_take (i:=19) (oi:=⟨_,_,_,_,_,_⟩) (v:=.slice (some ⟨g2,0,none⟩) L c7) rfl (by kernel_rfl) (by kernel_rfl) (by kernel_rfl) (fun _ _ _ h=>h) (Or.inl ⟨by rfl,fun w9 hSw=>by go_simp⟩) hHeld ?_
     try simp only [Act.put,sA,sB,sC]
     refine wpAnyH_take (i:=20) (oi:=⟨_,_,_,_,_,_⟩) (v:=.int .i64 (j:Int)) rfl (by kernel_rfl) (by kernel_rfl) (by kernel_rfl) (fun _ _ _ h=>h) (Or.inl ⟨by rfl,fun w9 hSw=>by go_simp⟩) hHeld ?_
     try simp only [Act.put,sA,sB,sC]
     refine wpAnyH_take (i:=24) (oi:=⟨_,_,_,_,_,_⟩) (v:=.slice (some ⟨g,0,none⟩) q6 c6) rfl (by kernel_rfl) (by kernel_rfl) (by kernel_rfl) (fun _ _ _ h=>h) (Or.inl ⟨by rfl,fun w9 hSw=>by go_simp⟩) hHeld ?_
     try simp only [Act.put,sA,sB,sC]
     refine wpAnyH_take (i:=25) (oi:=⟨_,_,_,_,_,_⟩) (v:=.int .i64 (k:Int)) rfl (by kernel_rfl) (by kernel_rfl) (by kernel_rfl) (fun _ _ _ h=>h) (Or.inl ⟨by rfl,fun w9 hSw=>by go_simp⟩) hHeld ?_
     try simp only [Act.put,sA,sB,sC]
     refine wpAnyH_take (i:=21) (oi:=⟨_,_,_,_,_,_⟩) (v:=.pointer (some ⟨g2,j*5,none⟩)) rfl (by kernel_rfl) (by kernel_rfl) (by kernel_rfl) (fun _ _ _ h=>h) (Or.inl ⟨by rfl,fun w9 hSw=>by go_simp⟩) hHeld ?_
     try simp only [Act.put,sA,sB,sC]
     refine wpAnyH_take (i:=22) (oi:=⟨_,_,_,_,_,_⟩) (v:=.pointer (some ⟨g2,j*5+1,none⟩)) rfl (by kernel_rfl) (by kernel_rfl) (by kernel_rfl) (fun _ _ _ h=>h) (Or.inl ⟨by rfl,fun w9 hSw=>by go_simp⟩) hHeld ?_
     try simp only [Act.put,sA,sB,sC]
     refine wpAnyH_take (i:=23) (oi:=⟨_,_,_,_,_,_⟩) (v:=.int .i64 x) rfl (by kernel_rfl) (by kernel_rfl) (by kernel_rfl) (fun _ _ _ h=>h) (Or.inl ⟨by rfl,fun w9 hSw=>by have h9:=(hSw.cell (p:=⟨g2,j*5+1,none⟩) (by show g2<_;omega)).trans HA1.out;go_simp⟩) hHeld ?_
     try simp only [Act.put,sA,sB,sC]
     refine wpAnyH_take (i:=26) (oi:=⟨_,_,_,_,_,_⟩) (v:=.pointer (some ⟨g,k*3,none⟩)) rfl (by kernel_rfl) (by kernel_rfl) (by kernel_rfl) (fun _ _ _ h=>h) (Or.inl ⟨by rfl,fun w9 hSw=>by go_simp⟩) hHeld ?_
     try simp only [Act.put,sA,sB,sC]
     refine wpAnyH_take (i:=27) (oi:=⟨_,_,_,_,_,_⟩) (v:=.pointer (some ⟨g,k*3+2,none⟩)) rfl (by kernel_rfl) (by kernel_rfl) (by kernel_rfl) (fun _ _ _ h=>h) (Or.inl ⟨by rfl,fun w9 hSw=>by go_simp⟩) hHeld ?_
     try simp only [Act.put,sA,sB,sC]
     refine wpAnyH_take (i:=28) (oi:=⟨_,_,_,_,_,_⟩) (v:=.int .i64 y) rfl (by kernel_rfl) (by kernel_rfl) (by kernel_rfl) (fun _ _ _ h=>h) (Or.inl ⟨by rfl,fun w9 hSw=>by have h9:=(hSw.cell (p:=⟨g,k*3+2,none⟩) (by show g<_;omega)).trans HK2.out;go_simp⟩) hHeld ?_
     try simp only [Act.put,sA,sB,sC]
     refine wpAnyH_ready (rs:=[14]) (by kernel_rfl) (by simp) ?_
     refine AllReadyH.cons (o:=⟨_,_,_,_,_,_⟩) rfl (fun K hK=>?_) AllReadyH.nil
     go_simp
     refine hK.out _ _ hHeld (fun hHeld=>?_)
     clear hK K
     refine wpAnyH_ready (rs:=[15]) (by kernel_rfl) (by simp) ?_
     refine AllReadyH.cons (o:=⟨_,_,_,_,_,_⟩) rfl (fun K hK=>?_) AllReadyH.nil
     go_simp
     refine hK.out _ _ hHeld (fun hHeld=>?_)
     clear hK K
     clear a4
     have a4:=(hHeld.cell (p:=⟨g2,j*5+4,none⟩) (by first | (show g2<_;omega) | omega)).trans HA4.out
     refine wpAnyH_ready (rs:=[16]) (by kernel_rfl) (by simp) ?_
     refine AllReadyH.cons (o:=⟨_,_,_,_,_,_⟩) rfl (fun K hK=>?_) AllReadyH.nil
     go_simp
     refine hK.out _ _ hHeld (fun hHeld=>?_)
     clear hK K
     clear a4
     refine wpAnyH_ready (rs:=[17]) (by kernel_rfl) (by simp) ?_
     refine AllReadyH.cons (o:=⟨_,_,_,_,_,_⟩) rfl (fun K hK=>?_) AllReadyH.nil
     go_simp
     refine hK.out _ _ hHeld (fun hHeld=>?_)
     clear hK K
     clear hc0
     have hc0:=(hHeld.cell (p:=b0) (by first | (show b0.block<_;omega) | omega)).trans HC0.out
     refine wpAnyH_ready (rs:=[18]) (by kernel_rfl) (by simp) ?_
     refine AllReadyH.cons (o:=⟨_,_,_,_,_,_⟩) rfl (fun K hK=>?_) AllReadyH.nil
     go_simp
     refine hK.out _ _ hHeld (fun hHeld=>?_)
     clear hK K
     refine wpAnyH_ready (rs:=[29]) (by kernel_rfl) (by simp) ?_
     refine AllReadyH.cons (o:=⟨_,_,_,_,_,_⟩) rfl (fun K hK=>?_) AllReadyH.nil
     have hc9:=HMC.out _ hHeld HMY.out
     go_simp
     refine hc9.mono ?_
     rintro E w12 ⟨rfl,hbn⟩
     refine hK.out _ _ (hHeld.trans (hbn.mono hHeld.size)) (fun hHeld=>?_)
     clear hK K hc9 hbn
     refine wpAnyH_ready (rs:=[30]) (by kernel_rfl) (by simp) ?_
     refine AllReadyH.cons (o:=⟨_,_,_,_,_,_⟩) rfl (fun K hK=>?_) AllReadyH.nil
     go_simp
     refine hK.out _ _ hHeld (fun hHeld=>?_)
     clear hK K
     refine wpAnyH_ready (rs:=[31]) (by kernel_rfl) (by simp) ?_
     refine AllReadyH.cons (o:=⟨_,_,_,_,_,_⟩) rfl (fun K hK=>?_) AllReadyH.nil
     go_simp
     refine hK.out _ _ hHeld (fun hHeld=>?_)
     clear hK K
     refine wpAnyH_done (by kernel_rfl) ?_ _
     have hB9:=hb.trans (hHeld.mono hzr)
     clear hHeld
     go_wp2_with fail
     go_roundw
     case rel=>exact ⟨k+1,by omega,by go_num,hB9⟩
     case measure=>simp [intOf];omega
   ·have hk':k=q6:=by omega
    have hkq:decide ((k:Int)<(q6:Int))=false:=decide_eq_false (by omega)
    have B7:=Lib.hid Br.out
    go_wp2_with fail
    go_ret
    exact ⟨rfl,B7.out⟩
theorem cellsByte:Tryz.prog.cellsOf 5=1:=by kernel_rfl
theorem read_bytes {H:Type} {enc:TypeId × Value→H} {W:World} {spare:Nat→Bool} {held:Bool} {fuel:Nat} {v:Value} {x:DataW H × List MemPlace} (h:DataW.trod enc Tryz.prog W 0 spare held fuel 22 [v]=some x) :
  ∃ (n:Nat) (A:Option Addr) (c:Nat),v=.slice A n c∧ByteV W W.heap.size n A c:=by
 rcases DataW.trod_slice Tryz.underlying22 h with ⟨hcs,_⟩ | ⟨a,len,cap,elems,rest,n,_,hcs,_,_,hl,hm,hlen,hel,_⟩
 ·injection hcs with hcs _
  exact ⟨0,none,0,hcs,by simp,by simp [maxLen],fun h=>absurd h (by simp)⟩
 ·injection hcs with hcs _
  have hex:∀ i,i<len→∃ z:Int,W.cell? (a.add i)=some (.int .u8 z)∧0≤z∧z≤255:=by
   intro i hi
   have h1:=hel i hi
   rw [cellsByte,Nat.mul_one,List.getElem?_eq_getElem (by omega)] at h1
   obtain ⟨cs',hc,ht⟩:=Option.bind_eq_some_iff.1 h1
   obtain ⟨_,_,hat⟩:=World.cells?_some hc
   obtain ⟨z,rfl,_,hwf⟩:=DataW.trod_int Tryz.underlying5 ht
   have hz:0≤z∧z≤255:=by simpa [Lit.wf,IntKind.min,IntKind.max,IntKind.signed,IntKind.bits] using hwf
   exact ⟨z,by simpa [Addr.add] using hat 0 (by omega),hz.1,hz.2⟩
  refine ⟨len,some a,cap,hcs,hl,hm,fun h0=>⟨a,rfl,?_,hex⟩⟩
  obtain ⟨z,hz,_⟩:=hex 0 h0
  have:=World.block_lt_of_cell? W _ hz
  rwa [block_add] at this
theorem own:ownKnob Tryz.prog.godebug=none:=by kernel_rfl
theorem laidOut:laidOutB Tryz.prog=true:=by kernel_rfl
set_option maxRecDepth 100000 in
theorem lifted (os:Os) (started:os.Started) (H:Type) (enc:TypeId × Value→H) :
  ReturnsInHanded {} Tryz.checked os 11 .any (fun w args=>(Rows.fnAliasLoanSpec.pre enc Tryz.prog Tryz.f11 [] false w args∧laidMetH Tryz.prog listed w)∧sizedMet enc Tryz.prog Tryz.f11 (OpenSpec.ofChange Rows.fnAliasLoanSpec) false w args)
   (Rows.fnAliasLoanSpec.post enc Tryz.prog Tryz.f11 false true false false):=by
 refine returnsInHanded_of_change_and (C:=Tryz.checked) (X:=fun w _=>laidMetH Tryz.prog listed w) (fun _ _ _ hh h=>h.of_heap hh) own started (by kernel_rfl) Tryz.func11
  (ChangeSpec.witness_shaped (enc:=enc) (C:=Tryz.checked) (os:=os) (X:=fun w _=>laidMetH Tryz.prog listed w) false (World.doorLaid Tryz.prog 400 os) #[.slice none 0 0] 8 rfl (World.shaped_of_RefB (by kernel_rfl) (by kernel_rfl)) (by kernel_rfl) (by kernel_rfl) (by kernel_rfl) (door_met os _)) ?_
 intro W base args ds gs before hval0 hW _ _ hL _
 have hval:∀ (j:Nat) t v,Tryz.f11.params[j]?=some t→args[j]?=some v→Value.okWide Tryz.prog W .any base t v:=hval0
 have hW':=hW
 obtain ⟨p,q,hA0,hV,rfl,hfz,hnd⟩:=hW
 have hA:DataW.TrodAll enc Tryz.prog W 0 (fun _=>true) true Tryz.f11.params.toList args.toList ds p:=hA0
 rw [Tryz.params11] at hA hval
 obtain ⟨v0,vs0,d0,ds0,p0,q0,hargs,rfl,rfl,h0,r0⟩:=trodAll_cons hA
 obtain ⟨rfl,rfl,rfl⟩:=trodAll_nil r0
 obtain rfl:args=#[v0]:=by cases args;simp_all
 obtain ⟨rfl,rfl⟩:=trodVars_none hV
 have k0:=h0
 have lt0:∀ x∈p0,x.block<W.heap.size:=by obtain ⟨m,hm⟩:=k0;exact DataW.trod_lt m _ _ _ hm
 obtain ⟨a0,len0,cap0,rfl⟩:=okWide_slice Tryz.underlying22 (hval 0 22 v0 rfl rfl)
 obtain ⟨fu0,hf0⟩:=h0
 obtain ⟨nb0,At0,ct0,hv0,hT0⟩:=read_bytes hf0
 injection hv0 with hv0 hv0' hv0''
 subst hv0 hv0' hv0''
 obtain ⟨hTab,hTabLt⟩:=tab_of_laid hL
 clear hA0 hval0
 simp only [List.append_nil] at hW'
 refine (walk _ _ _ W hT0 hTab hTabLt).mono fun e W' ⟨he,bel⟩=>?_
 subst he
 exact ⟨_,rfl,_,_,_,[],_,[],hW',trodAll_mk1 (shut_bool Tryz.underlying4 _),(trodAll_cons_mk (Below.trod laidOut (by kernel_rfl) (of_decide_eq_true (by kernel_rfl)) k0 bel lt0) trodAll_mk0),rfl,bel.frame _,fun h=>by cases h⟩
theorem over:Rows.fnAliasLoanRow.holds Tryz.pinned (OpenSpec.ofChange Rows.fnAliasLoanSpec) :=
 OpenClaim.holds_of_wide 11 Tryz.f11 rfl rfl rfl rfl rfl rfl rfl ⟨rfl,rfl,rfl,rfl,rfl⟩ rfl rfl rfl rfl rfl (by kernel_rfl) Tryz.func11 (by kernel_rfl)
  (of_decide_eq_true (by kernel_rfl)) (by unfold Func.isWrapper;first | (rw [if_pos (by decide +kernel)];kernel_rfl) | (rw [if_neg (by decide +kernel)];exact ⟨rfl,rfl⟩))
  (fun os started H enc _=>lifted os started H enc)
set_option maxRecDepth 100000 in
theorem proved:Rows.FnAliasLoanCardSaid :=
 Claim7.holds_tied_plain_at .later [] [.data] true (true, "a8cee4c2774af7e9bec96c1cf39a97fded44048fc6d579c08f505256ae79d544") false
  over (fun _ h=>by cases h) (by kernel_rfl) (fun _ h=>by cases h) fnAliasLoan_row_tie rfl ⟨rfl,rfl⟩ (by kernel_rfl) rfl
  (fun f fn hf hfn=>by
   obtain rfl:f=11:=Option.some.inj ((show Tryz.prog.funcNamed "loop.example/borrowcheck/laws.FnAliasLoan" = some 11 by kernel_rfl).symm.trans hf) |>.symm
   obtain rfl:fn=Tryz.f11:=(Option.some.inj (Tryz.func11.symm.trans hfn)).symm
   exact ⟨by kernel_rfl,fun j t ht=>by
    rw [Tryz.params11] at ht
    have hm:t∈[22]:=by simpa using Array.mem_of_getElem? ht
    have hall:([22].all fun u=>!Tryz.prog.wantsStandIn u)=true:=by kernel_rfl
    exact (show Tryz.prog.wantsStandIn t=false by simpa using List.all_eq_true.1 hall t hm)⟩)
  (by kernel_rfl)
#print axioms proved
end Go.Proofs.YtofcdecpipgmjaaGreatDoor.fnAliasLoan
