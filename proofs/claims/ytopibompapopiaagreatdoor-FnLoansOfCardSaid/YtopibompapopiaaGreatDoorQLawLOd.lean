/-
  Whatever the bytes: each loan is at a point that sets a reference,from a variable through which the point reaches;and the loans are the model's. Conditions: none.
-/
import Derived.Test.YtopibompapopiaaGreatDoorQPuL
import Derived.Test.YtopibompapopiaaGreatDoorQDrGc
import Derived.Test.YtopibompapopiaaGreatDoorQLoI
import Derived.Test.YtopibompapopiaaGreatDoorQL4S
import Derived.Test.YtopibompapopiaaGreatDoorQUsG
import Derived.Test.YtopibompapopiaaGreatDoorQKinds
import Derived.Test.YtopibompapopiaaGreatDoorQTab
import Derived.Test.YtopibompapopiaaGreatDoorRows
import Derived.Test.YtopibompapopiaaGreatDoorCards
import Derived.Test.YtopibompapopiaaGreatDoorTie
import Derived.LaidMore
import Derived.SevenTiedAt
import Derived.WalkKit
import Derived.ProofKit
import Derived.OpenShut
import Derived.Lib.SmallJoins
import Derived.Deep.RegionHeld3
namespace Go.Proofs.YtopibompapopiaaGreatDoor.fnLoansOf
open Go.ChangeShapes Go.WideShapes Go.ChangeAt Go.RowKit Go.Deep Go.Joins
set_option linter.unusedVariables false
theorem rowI_formN {w:World} {B n:Nat} {v:Value} {xs:List Int} (h:RowI w B v xs) (hn:xs.length=n):∃ A c,v=.slice A n c∧n≤c∧c≤maxLen:=by
 obtain ⟨A,c,h1,h2,h3,_⟩:=own_form h.own
 subst hn
 exact ⟨A,c,h1,h2,h3⟩
theorem rowI_form {w:World} {B:Nat} {v:Value} {xs:List Int} (h:RowI w B v xs):∃ A c,v=.slice A xs.length c∧xs.length≤c∧c≤maxLen:=rowI_formN h rfl
theorem tyAt_el {ts:List Int} {A:Option Addr} {c k:Nat} {w:World} (hT:IntsV w 0 w.heap.size ts A c) (hk:k<ts.length):∃ b,A=some b∧b.block<w.heap.size∧w.cell? (b.add k)=some (.int .i64 (tyAt ts k)):=by
 obtain ⟨b,u,hA,-,hbb,hx,hc⟩:=hT.elem hk
 have e0:tyAt ts k=u:=by
  unfold tyAt
  rw [if_neg (by omega)]
  simp [hx]
 rw [e0]
 exact ⟨b,hA,hbb,hc⟩
theorem implIsReference_any (t:Int) (z:Bool) (hz:Hid (decide (t=3∨t=4)=z)) (w:World):Calls Tryz.prog 17 #[.int .i64 t] w fun e w'=>e=.returned (.bool z)∧w=w':=by
 go_enter Tryz.func17,Tryz.ntmps17
 go_wp2_with fail
 refine (isReferenceT_any t w).mono ?_
 rintro E w1 ⟨he,rfl⟩
 rw [hz.out] at he
 subst he
 go_wp2_with fail
 go_ret
 exact ⟨rfl,rfl⟩
theorem loan_facts {ts:List Int} {s:Sts} {j:Nat} {d:Nd} (hv:validB ts s=true) (hd:(progPts s)[j]?=some d) (hop:d.op=4∨d.op=5) :
  ∃ x:Nat,d.x=(x:Int)∧x<ts.length∧(tyAt ts x=3∨tyAt ts x=4)∧decide (d.op=5)=(tyAt ts x==4)∧useOfI (validB ts s) ts s j d.y=3∧setByI (validB ts s) s j=(x:Int):=by
 have hA:=progPts_allTyped hv
 have hT:=hA.2 j d hd
 rcases hT with ⟨h1,h8,hb⟩ | ⟨h9,-⟩
 ·have hst:=(simple_types hb).1 ⟨h1,h8⟩
  have hyt:=(simple_types hb).2 (by omega)
  obtain ⟨x0,x1⟩:=tyAt_lt hst
  obtain ⟨y0,y1⟩:=tyAt_lt hyt
  obtain ⟨x,hx⟩:=Int.eq_ofNat_of_zero_le x0
  obtain ⟨y,hy⟩:=Int.eq_ofNat_of_zero_le y0
  have hux:useOfI true ts s j d.y=3:=by
   rw [hy,useOfI_yes hd (by omega)]
   unfold useI
   rw [if_neg (by omega),if_pos (by omega),if_pos hy.symm]
  have hsx:setByI true s j=(x:Int):=by
   rw [setByI_yes hd]
   unfold setI
   rw [if_pos (by omega)]
   exact hx
  rw [hv]
  refine ⟨x,hx,by omega,?_,?_,hux,hsx⟩
  ·rw [← hx]
   rcases hop with h | h <;> rw [h] at hb <;> simp [simpleB] at hb <;> simp [hb]
  ·rw [← hx]
   rcases hop with h | h <;> rw [h] at hb <;> simp [simpleB] at hb <;> simp [hb,h]
 ·omega
set_option maxRecDepth 100000 in
set_option maxHeartbeats 2000000 in
theorem walk (n0 c0:Nat) (A0:Option Addr) (W:World) (hB:ByteV W W.heap.size n0 A0 c0) (hTab:TabAt 0 Lib.deBruijn64tab W) (hg:0<W.heap.size) :
  Calls Tryz.prog 3 #[.slice A0 n0 c0] W fun e w'=>e=.returned (.bool true)∧Below W.heap.size W w':=by
 have hnc:=hB.1
 have hcm:=hB.2.1
 unfold maxLen at hcm
 by_cases hn:1048576<n0
 ·go_enter Tryz.func3,Tryz.ntmps3
  go_wp2_with fail
  go_ret
  exact ⟨rfl,Below.refl _ _⟩
 have e1:decide (1048576<(n0:Int))=false:=decide_eq_false (by omega)
 have HD:=Lib.hid (drawLoansOf_any n0 c0 A0 W hB)
 clear hB
 go_enter Tryz.func3,Tryz.ntmps3
 go_wp2_with fail
 refine HD.out.mono ?_
 rintro E w1 ⟨ts,s,At,As,ct,cs,rfl,hr1,ht1,hs1,hb1⟩
 have h1s:=hb1.size
 obtain ⟨n,hn⟩:∃ n,ts.length=n:=⟨_,rfl⟩
 obtain ⟨m,hm⟩:∃ m,s.len=m:=⟨_,rfl⟩
 rw [hn,hm]
 have hn9:n≤1000:=by omega
 have HN:=Lib.hid hn
 have HM:=Lib.hid hm
 have HSZ:=Lib.hid hs1
 have hba:=(Below.refl w1.heap.size w1).alloc (Nat.le_refl _) (.cells #[.slice At n ct,.slice As m cs] 26)
 have h2n:=heap_alloc_new w1 (.cells #[.slice At n ct,.slice As m cs] 26)
 have h2z:w1.heap.size+1≤(w1.alloc (.cells #[.slice At n ct,.slice As m cs] 26)).heap.size:=Nat.le_of_eq (by simp)
 obtain ⟨w2,hw2⟩:∃ w2,w1.alloc (.cells #[.slice At n ct,.slice As m cs] 26)=w2:=⟨_,rfl⟩
 have T2:=Lib.hid (hr1.1.below hba (Nat.le_trans (Nat.le_refl _) hba.size))
 have R2:=Lib.hid (hr1.2.below hba (Nat.le_trans (Nat.le_refl _) hba.size))
 have B2:=Lib.hid (hb1.trans (hba.mono h1s))
 rw [hw2] at T2 R2 B2 h2n h2z
 have P2:=Lib.hid h2n
 clear hn hm hba hr1 ht1 hs1 hb1 h2n HD
 obtain ⟨PB,hPB⟩:∃ PB,w1.heap.size=PB:=⟨_,rfl⟩
 rw [hPB] at P2 h2z h1s
 have hPW:W.heap.size≤PB:=h1s
 have hP2:PB<w2.heap.size:=h2z
 have HC:=implLoansOf_any ts s At As ct cs w2 T2.out R2.out (tab_below hTab hg B2.out) (by have:=B2.out.size;omega)
 rw [HN.out,HM.out] at HC
 replace HC:=Lib.hid HC
 have p0:w2.cell? ⟨PB,0,none⟩=some (.slice At n ct):=(cB P2.out 0).trans rfl
 have p1:w2.cell? ⟨PB,1,none⟩=some (.slice As m cs):=(cB P2.out 1).trans rfl
 go_upto_region 4 with (fail)
 clear hw2 hPB
 go_wp2_with fail
 refine HC.out.mono ?_
 rintro E w3 ⟨v3,l3,rfl,hrow3,hans3,hb3⟩
 have N3:=Lib.hid hrow3.reads
 have HA3:=Lib.hid hans3
 have hz3:=hb3.size
 have T3:=Lib.hid (T2.out.below hb3 hz3)
 have R3:=Lib.hid (R2.out.below hb3 hz3)
 have P3:=Lib.hid ((hb3.block PB (by omega)).trans P2.out)
 have B3:=Lib.hid (B2.out.trans (hb3.mono (by omega)))
 have hP3:PB<w3.heap.size:=by omega
 obtain ⟨A3,c3,hv3,hc3,hmx3,-⟩:=id N3.out
 obtain ⟨q3,hl3⟩:∃ q,l3.length=q:=⟨_,rfl⟩
 rw [hl3] at hv3 hc3
 subst hv3
 unfold maxLen at hmx3
 have HL3:=Lib.hid hl3
 clear hrow3 hans3 hb3 HC p0 p1 hl3
 have HC:=specLoansOf_any ts s At As ct cs w3 (by have:=HSZ.out;omega) T3.out R3.out
 rw [HN.out,HM.out] at HC
 replace HC:=Lib.hid HC
 have p0:w3.cell? ⟨PB,0,none⟩=some (.slice At n ct):=(cB P3.out 0).trans rfl
 have p1:w3.cell? ⟨PB,1,none⟩=some (.slice As m cs):=(cB P3.out 1).trans rfl
 go_wp2_with fail
 refine HC.out.mono ?_
 rintro E w4 ⟨v4,l4,rfl,hrow4,hans4,hb4⟩
 rw [hans4.unique HA3.out] at hrow4
 have N4:=Lib.hid hrow4.reads
 have hz4:=hb4.size
 have T4:=Lib.hid (T3.out.below hb4 hz4)
 have R4:=Lib.hid (R3.out.below hb4 hz4)
 have P4:=Lib.hid ((hb4.block PB (by omega)).trans P3.out)
 have B4:=Lib.hid (B3.out.trans (hb4.mono (by omega)))
 have hP4:PB<w4.heap.size:=by omega
 have N3:=Lib.hid (N3.out.below hb4)
 obtain ⟨A4,c4,hv4,hc4,hmx4,-⟩:=id N4.out
 rw [HL3.out] at hv4 hc4
 subst hv4
 unfold maxLen at hmx4
 clear hrow4 hans4 hb4 HC p0 p1
 have eqq:((q3:Int) != (q3:Int))=false:=by simp
 go_wp2_with fail
 go_loopw [6] (fun i wr=>∃ k:Nat,k≤q3∧i=.int .i64 k∧Below w4.heap.size w4 wr) (fun i _=>q3-(intOf i).toNat)
 case atStart=>exact ⟨0,Nat.zero_le _,rfl,Below.refl _ _⟩
 case round =>
  obtain ⟨k,hk,rfl,hb⟩:=hrel
  have hzr:=hb.size
  have Tr:=Lib.hid (T4.out.below hb hzr)
  have Rr:=Lib.hid (R4.out.below hb hzr)
  have Pr:=Lib.hid ((hb.block PB (by omega)).trans P4.out)
  have Br:=Lib.hid (B4.out.trans (hb.mono (by omega)))
  have hPr:PB<wr.heap.size:=by omega
  have N3:=Lib.hid (N3.out.below hb)
  have N4:=Lib.hid (N4.out.below hb)
  by_cases hlt:k<q3
  ·have f1:IntKind.i64.wrap ((k:Int)+1)=(k:Int)+1:=IntWalk.i64_in _ (by omega)
   obtain ⟨A1,c1,e1,-,-,h4⟩:=id N3.out
   injection e1 with e1 e1m e1'
   subst e1 e1'
   obtain ⟨g,hg0,hgl,hcc⟩:=h4 (by rw [HL3.out];omega)
   subst hg0
   obtain ⟨A1,c1,e1,-,-,h4⟩:=id N4.out
   injection e1 with e1 e1m' e1'
   subst e1 e1'
   obtain ⟨g4,hg0,hgl4,hcc4⟩:=h4 (by rw [HL3.out];omega)
   subst hg0
   obtain ⟨x,hx⟩:∃ x,l3[k]?=some x:=⟨l3[k]'(by rw [HL3.out];exact hlt),List.getElem?_eq_getElem _⟩
   obtain ⟨k0,k1,k2⟩:=hcc k x hx
   obtain ⟨m0,m1,m2⟩:=hcc4 k x hx
   obtain ⟨hv,j,d,hd,hop,hxe⟩:=HA3.out.at hx
   subst hxe
   simp only at k0 k1 k2 m0 m1 m2
   obtain ⟨e,hde,het,hty,hun,hus,hsb⟩:=loan_facts hv hd hop
   obtain ⟨uq,huq⟩:∃ uq,decide (d.op=5)=uq:=⟨_,rfl⟩
   obtain ⟨y,hy⟩:∃ y,d.y=y:=⟨_,rfl⟩
   obtain ⟨ty,hty0⟩:∃ ty,tyAt ts (e:Int)=ty:=⟨_,rfl⟩
   rw [huq] at k1 m1 hun
   rw [hy] at k2 m2 hus
   obtain ⟨bt,rfl,hbt,hct⟩:=tyAt_el Tr.out het
   rw [hty0] at hty hun hct
   have hen:e<n:=by rw [← HN.out];exact het
   have HUS:=Lib.hid hus
   have HSB:=Lib.hid hsb
   have HRF:Hid (decide (ty=3∨ty=4)=true):=decide_eq_true hty
   have hne:(uq != (ty==4))=false:=by rw [← hun];simp
   clear h4 hcc hcc4 e1m e1m' hx hv hd hop hde het hty hus hsb huq hy hty0
   have HSE:Hid (∀ w',Below wr.heap.size wr w'→Calls Tryz.prog 16 #[.agg #[.slice (some bt) n ct,.slice As m cs],.int .i64 j] w' fun E w''=>E=.returned (.int .i64 (e:Int))∧Below w'.heap.size w' w''):=fun w' hb=>by
    have h:=implSetBy_any ts s (some bt) As ct cs j w' (Tr.out.below hb hb.size) (Rr.out.below hb hb.size) (tab_below hTab hg (Br.out.trans (hb.mono (by have:=Br.out.size;omega)))) (by have:=Br.out.size;have:=hb.size;omega)
    rw [HN.out,HM.out,HSB.out] at h
    exact h
   have HUE:Hid (∀ w',Below wr.heap.size wr w'→Calls Tryz.prog 18 #[.agg #[.slice (some bt) n ct,.slice As m cs],.int .i64 j,.int .i64 y] w' fun E w''=>E=.returned (.int .i64 3)∧Below w'.heap.size w' w''):=fun w' hb=>by
    have h:=implUseOf_any ts s (some bt) As ct cs j y w' (Tr.out.below hb hb.size) (Rr.out.below hb hb.size)
    rw [HN.out,HM.out,HUS.out] at h
    exact h
   have HIE:Hid (∀ w':World,Calls Tryz.prog 17 #[.int .i64 ty] w' fun E w''=>E=.returned (.bool true)∧Below w'.heap.size w' w''):=fun w'=>(implIsReference_any ty true HRF w').mono fun E w'' h=>⟨h.1,by rw [← h.2];exact Below.refl _ _⟩
   have p0:wr.cell? ⟨PB,0,none⟩=some (.slice (some bt) n ct):=(cB Pr.out 0).trans rfl
   have p1:wr.cell? ⟨PB,1,none⟩=some (.slice As m cs):=(cB Pr.out 1).trans rfl
   have HS:Hid (∀ w',Below wr.heap.size wr w'→(Below wr.heap.size wr w'∧w'.cell? ⟨PB,0,none⟩=some (.slice (some bt) n ct)∧w'.cell? ⟨PB,1,none⟩=some (.slice As m cs)∧w'.cell? ⟨g,k*3,none⟩=some (.int .i64 j)∧w'.cell? ⟨g,k*3+1,none⟩=some (.bool uq)∧w'.cell? ⟨g,k*3+2,none⟩=some (.int .i64 y)∧w'.cell? ⟨g4,k*3,none⟩=some (.int .i64 j)∧w'.cell? ⟨g4,k*3+1,none⟩=some (.bool uq)∧w'.cell? ⟨g4,k*3+2,none⟩=some (.int .i64 y)∧w'.cell? (bt.add e)=some (.int .i64 ty))):=fun w' hb=>⟨hb,(hb.cell (by have:=Br.out.size;omega)).trans p0,(hb.cell (by have:=Br.out.size;omega)).trans p1,(hb.cell (by have:=Br.out.size;omega)).trans k0,(hb.cell (by have:=Br.out.size;omega)).trans k1,(hb.cell (by have:=Br.out.size;omega)).trans k2,(hb.cell (by have:=Br.out.size;omega)).trans m0,(hb.cell (by have:=Br.out.size;omega)).trans m1,(hb.cell (by have:=Br.out.size;omega)).trans m2,(hb.cell (by rw [block_add];exact hbt)).trans hct⟩
   go_upto_region 11 with (fail)
   go_region_held3 (fun w'=>Below wr.heap.size wr w'∧w'.cell? ⟨PB,0,none⟩=some (.slice (some bt) n ct)∧w'.cell? ⟨PB,1,none⟩=some (.slice As m cs)∧w'.cell? ⟨g,k*3,none⟩=some (.int .i64 j)∧w'.cell? ⟨g,k*3+1,none⟩=some (.bool uq)∧w'.cell? ⟨g,k*3+2,none⟩=some (.int .i64 y)∧w'.cell? ⟨g4,k*3,none⟩=some (.int .i64 j)∧w'.cell? ⟨g4,k*3+1,none⟩=some (.bool uq)∧w'.cell? ⟨g4,k*3+2,none⟩=some (.int .i64 y)∧w'.cell? (bt.add e)=some (.int .i64 ty))
    (first | with_reducible exact HS.out _ ((Below.refl wr.heap.size wr).drew) | with_reducible exact HS.out _ (Below.refl wr.heap.size wr) | with_reducible exact HS.out _ ((And.left ‹Below wr.heap.size wr _∧_›).trans (hbn.mono (And.left ‹Below wr.heap.size wr _∧_›).size)))
    ((go_at_call 16;(with_reducible refine (HSE.out _ (And.left ‹Below wr.heap.size wr _∧_›)).mono ?_);rintro E w' ⟨rfl,hbn⟩))
   all_goals
    have hbl:=(And.left ‹Below wr.heap.size wr _∧_›)
    have hz5:=hbl.size
    have HB5:=Lib.hid hbl
    have g1:decide ((e:Int)<0)=false:=decide_eq_false (by omega)
    clear HSE
    go_upto_region 12 with (fail)
    go_region_held3 (fun w'=>Below wr.heap.size wr w'∧w'.cell? ⟨PB,0,none⟩=some (.slice (some bt) n ct)∧w'.cell? ⟨PB,1,none⟩=some (.slice As m cs)∧w'.cell? ⟨g,k*3,none⟩=some (.int .i64 j)∧w'.cell? ⟨g,k*3+1,none⟩=some (.bool uq)∧w'.cell? ⟨g,k*3+2,none⟩=some (.int .i64 y)∧w'.cell? ⟨g4,k*3,none⟩=some (.int .i64 j)∧w'.cell? ⟨g4,k*3+1,none⟩=some (.bool uq)∧w'.cell? ⟨g4,k*3+2,none⟩=some (.int .i64 y)∧w'.cell? (bt.add e)=some (.int .i64 ty))
     (first | with_reducible exact HS.out _ hbl.drew | with_reducible exact HS.out _ hbl | with_reducible exact HS.out _ ((And.left ‹Below wr.heap.size wr _∧_›).trans (hbn.mono (And.left ‹Below wr.heap.size wr _∧_›).size)))
     (first
      | (go_at_call 17;(with_reducible refine (HIE.out _).mono ?_);rintro E w'' ⟨rfl,hbn⟩)
      | (go_at_call 18;(with_reducible refine (HUE.out _ (And.left ‹Below wr.heap.size wr _∧_›)).mono ?_);rintro E w'' ⟨rfl,hbn⟩))
    all_goals
     have hB9:=hb.trans ((And.left ‹Below wr.heap.size wr _∧_›).mono hzr)
     go_wp2_with fail
     go_roundw
     case rel=>exact ⟨k+1,by omega,by go_num,hB9⟩
     case measure=>simp [intOf];omega
  ·have hk':k=q3:=by omega
   have hkq:decide ((k:Int)<(q3:Int))=false:=decide_eq_false (by omega)
   have B7:=Lib.hid Br.out
   go_wp2_with fail
   go_ret
   exact ⟨rfl,B7.out⟩
theorem cellsByte:Tryz.prog.cellsOf 5=1:=by kernel_rfl
theorem read_bytes {H:Type} {enc:TypeId × Value→H} {W:World} {spare:Nat→Bool} {held:Bool} {fuel:Nat} {v:Value} {x:DataW H × List MemPlace} (h:DataW.trod enc Tryz.prog W 0 spare held fuel 22 [v]=some x) :
  ∃ (n:Nat) (A:Option Addr) (c:Nat),v=.slice A n c∧ByteV W W.heap.size n A c:=by
 rcases DataW.trod_slice Tryz.underlying22 h with ⟨hcs,_⟩ | ⟨a,len,cap,elems,rest,n,_,hcs,_,_,hl,hm,hlen,hel,_⟩
 ·injection hcs with hcs _
  exact ⟨0,none,0,hcs,by simp,by simp [maxLen],fun h=>absurd h (by simp)⟩
 ·injection hcs with hcs _
  have hex:∀ i,i<len→∃ z:Int,W.cell? (a.add i)=some (.int .u8 z)∧0≤z∧z≤255:=by
   intro i hi
   have h1:=hel i hi
   rw [cellsByte,Nat.mul_one,List.getElem?_eq_getElem (by omega)] at h1
   obtain ⟨cs',hc,ht⟩:=Option.bind_eq_some_iff.1 h1
   obtain ⟨_,_,hat⟩:=World.cells?_some hc
   obtain ⟨z,rfl,_,hwf⟩:=DataW.trod_int Tryz.underlying5 ht
   have hz:0≤z∧z≤255:=by simpa [Lit.wf,IntKind.min,IntKind.max,IntKind.signed,IntKind.bits] using hwf
   exact ⟨z,by simpa [Addr.add] using hat 0 (by omega),hz.1,hz.2⟩
  refine ⟨len,some a,cap,hcs,hl,hm,fun h0=>⟨a,rfl,?_,hex⟩⟩
  obtain ⟨z,hz,_⟩:=hex 0 h0
  have:=World.block_lt_of_cell? W _ hz
  rwa [block_add] at this
theorem own:ownKnob Tryz.prog.godebug=none:=by kernel_rfl
theorem laidOut:laidOutB Tryz.prog=true:=by kernel_rfl
set_option maxRecDepth 100000 in
theorem lifted (os:Os) (started:os.Started) (H:Type) (enc:TypeId × Value→H) :
  ReturnsInHanded {} Tryz.checked os 3 .any (fun w args=>(Rows.fnLoansOfSpec.pre enc Tryz.prog Tryz.f3 [] false w args∧laidMetH Tryz.prog listed w)∧sizedMet enc Tryz.prog Tryz.f3 (OpenSpec.ofChange Rows.fnLoansOfSpec) false w args)
   (Rows.fnLoansOfSpec.post enc Tryz.prog Tryz.f3 false true false false):=by
 refine returnsInHanded_of_change_and (C:=Tryz.checked) (X:=fun w _=>laidMetH Tryz.prog listed w) (fun _ _ _ hh h=>h.of_heap hh) own started (by kernel_rfl) Tryz.func3
  (ChangeSpec.witness_shaped (enc:=enc) (C:=Tryz.checked) (os:=os) (X:=fun w _=>laidMetH Tryz.prog listed w) false (World.doorLaid Tryz.prog 400 os) #[.slice none 0 0] 8 rfl (World.shaped_of_RefB (by kernel_rfl) (by kernel_rfl)) (by kernel_rfl) (by kernel_rfl) (by kernel_rfl) (door_met os _)) ?_
 intro W base args ds gs before hval0 hW _ _ hL _
 have hval:∀ (j:Nat) t v,Tryz.f3.params[j]?=some t→args[j]?=some v→Value.okWide Tryz.prog W .any base t v:=hval0
 have hW':=hW
 obtain ⟨p,q,hA0,hV,rfl,hfz,hnd⟩:=hW
 have hA:DataW.TrodAll enc Tryz.prog W 0 (fun _=>true) true Tryz.f3.params.toList args.toList ds p:=hA0
 rw [Tryz.params3] at hA hval
 obtain ⟨v0,vs0,d0,ds0,p0,q0,hargs,rfl,rfl,h0,r0⟩:=trodAll_cons hA
 obtain ⟨rfl,rfl,rfl⟩:=trodAll_nil r0
 obtain rfl:args=#[v0]:=by cases args;simp_all
 obtain ⟨rfl,rfl⟩:=trodVars_none hV
 have k0:=h0
 have lt0:∀ x∈p0,x.block<W.heap.size:=by obtain ⟨m,hm⟩:=k0;exact DataW.trod_lt m _ _ _ hm
 obtain ⟨a0,len0,cap0,rfl⟩:=okWide_slice Tryz.underlying22 (hval 0 22 v0 rfl rfl)
 obtain ⟨fu0,hf0⟩:=h0
 obtain ⟨nb0,At0,ct0,hv0,hT0⟩:=read_bytes hf0
 injection hv0 with hv0 hv0' hv0''
 subst hv0 hv0' hv0''
 obtain ⟨hTab,hTabLt⟩:=tab_of_laid hL
 clear hA0 hval0
 simp only [List.append_nil] at hW'
 refine (walk _ _ _ W hT0 hTab hTabLt).mono fun e W' ⟨he,bel⟩=>?_
 subst he
 exact ⟨_,rfl,_,_,_,[],_,[],hW',trodAll_mk1 (shut_bool Tryz.underlying4 _),(trodAll_cons_mk (Below.trod laidOut (by kernel_rfl) (of_decide_eq_true (by kernel_rfl)) k0 bel lt0) trodAll_mk0),rfl,bel.frame _,fun h=>by cases h⟩
theorem over:Rows.fnLoansOfRow.holds Tryz.pinned (OpenSpec.ofChange Rows.fnLoansOfSpec) :=
 OpenClaim.holds_of_wide 3 Tryz.f3 rfl rfl rfl rfl rfl rfl rfl ⟨rfl,rfl,rfl,rfl,rfl⟩ rfl rfl rfl rfl rfl (by kernel_rfl) Tryz.func3 (by kernel_rfl)
  (of_decide_eq_true (by kernel_rfl)) (by unfold Func.isWrapper;first | (rw [if_pos (by decide +kernel)];kernel_rfl) | (rw [if_neg (by decide +kernel)];exact ⟨rfl,rfl⟩))
  (fun os started H enc _=>lifted os started H enc)
set_option maxRecDepth 100000 in
theorem proved:Rows.FnLoansOfCardSaid :=
 Claim7.holds_tied_plain_at .later [] [.data] true (true, "20a3894989218b0769602756e3096f731b7b576747fe359447f5159343af2ab9") false
  over (fun _ h=>by cases h) (by kernel_rfl) (fun _ h=>by cases h) fnLoansOf_row_tie rfl ⟨rfl,rfl⟩ (by kernel_rfl) rfl
  (fun f fn hf hfn=>by
   obtain rfl:f=3:=Option.some.inj ((show Tryz.prog.funcNamed "loop.example/borrowcheck/laws.FnLoansOf" = some 3 by kernel_rfl).symm.trans hf) |>.symm
   obtain rfl:fn=Tryz.f3:=(Option.some.inj (Tryz.func3.symm.trans hfn)).symm
   exact ⟨by kernel_rfl,fun j t ht=>by
    rw [Tryz.params3] at ht
    have hm:t∈[22]:=by simpa using Array.mem_of_getElem? ht
    have hall:([22].all fun u=>!Tryz.prog.wantsStandIn u)=true:=by kernel_rfl
    exact (show Tryz.prog.wantsStandIn t=false by simpa using List.all_eq_true.1 hall t hm)⟩)
  (by kernel_rfl)
#print axioms proved
end Go.Proofs.YtopibompapopiaaGreatDoor.fnLoansOf
