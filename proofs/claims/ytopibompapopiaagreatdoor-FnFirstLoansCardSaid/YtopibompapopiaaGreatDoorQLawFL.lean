/-
  Whatever the bytes: before the first point no loan is placed that does not lead back to it,and what is placed is the model's. Conditions: none.
-/
import Derived.Test.YtopibompapopiaaGreatDoorQPuL
import Derived.Test.YtopibompapopiaaGreatDoorQDrGa
import Derived.Test.YtopibompapopiaaGreatDoorQBcG
import Derived.Test.YtopibompapopiaaGreatDoorQPthG
import Derived.Test.YtopibompapopiaaGreatDoorQLpI
import Derived.Test.YtopibompapopiaaGreatDoorQLawLPg
import Derived.Test.YtopibompapopiaaGreatDoorQTab
import Derived.Test.YtopibompapopiaaGreatDoorRows
import Derived.Test.YtopibompapopiaaGreatDoorCards
import Derived.Test.YtopibompapopiaaGreatDoorTie
import Derived.LaidMore
import Derived.SevenTiedAt
import Derived.WalkKit
import Derived.ProofKit
import Derived.OpenShut
import Derived.Lib.SmallJoins
import Derived.Deep.RegionHeld3
namespace Go.Proofs.YtopibompapopiaaGreatDoor.fnFirstLoans
open Go.ChangeShapes Go.WideShapes Go.ChangeAt Go.RowKit Go.Deep Go.Joins
set_option linter.unusedVariables false
theorem rowI_formN {w:World} {B n:Nat} {v:Value} {xs:List Int} (h:RowI w B v xs) (hn:xs.length=n):∃ A c,v=.slice A n c∧n≤c∧c≤maxLen:=by
 obtain ⟨A,c,h1,h2,h3,_⟩:=own_form h.own
 subst hn
 exact ⟨A,c,h1,h2,h3⟩
theorem rowI_form {w:World} {B:Nat} {v:Value} {xs:List Int} (h:RowI w B v xs):∃ A c,v=.slice A xs.length c∧xs.length≤c∧c≤maxLen:=rowI_formN h rfl
theorem first_back {ts:List Int} {ok:Bool} {s:Sts} {z:Int} {l6 l:List Int} (h6:AnsAt (LoPl ts) ok s 0 l6) (hz:z∈l6) (h:AnsPathsFrom ok s z l):(0:Int)∈l:=by
 obtain ⟨rfl,-,-,k,rfl,hk⟩:=(h6.mem z).1 hz
 have hr:=loanB_reach (show LoanB ts (progPts s) 0 6 k from hk)
 obtain ⟨d,hd,-⟩:=LoanB.loan (show LoanB ts (progPts s) 0 6 k from hk)
 have hl:=(List.getElem?_eq_some_iff.1 hd).1
 rcases h with ⟨-,-,-,hl'⟩ | ⟨hn,-⟩
 ·rw [isPathsB_mem hl']
  exact ⟨0,rfl,by rw [Int.toNat_natCast];exact hr⟩
 ·exact absurd ⟨rfl,by omega,by omega⟩ hn
set_option maxRecDepth 100000 in
set_option maxHeartbeats 2000000 in
theorem walk (n0 c0:Nat) (A0:Option Addr) (W:World) (hB:ByteV W W.heap.size n0 A0 c0) (hTab:TabAt 0 Lib.deBruijn64tab W) (hg:0<W.heap.size) :
  Calls Tryz.prog 8 #[.slice A0 n0 c0] W fun e w'=>e=.returned (.bool true)∧Below W.heap.size W w':=by
 have hnc:=hB.1
 have hcm:=hB.2.1
 unfold maxLen at hcm
 by_cases hn:1048576<n0
 ·go_enter Tryz.func8,Tryz.ntmps8
  go_wp2_with fail
  go_ret
  exact ⟨rfl,Below.refl _ _⟩
 have e1:decide (1048576<(n0:Int))=false:=decide_eq_false (by omega)
 have HD:=Lib.hid (drawPlacedLoans_any n0 c0 A0 W hB)
 clear hB
 go_enter Tryz.func8,Tryz.ntmps8
 go_wp2_with fail
 refine HD.out.mono ?_
 rintro E w1 ⟨ts,s,At,As,ct,cs,a,rfl,hr1,ht1,hs1,hq,hb1⟩
 have h1s:=hb1.size
 obtain ⟨n,hn⟩:∃ n,ts.length=n:=⟨_,rfl⟩
 obtain ⟨m,hm⟩:∃ m,s.len=m:=⟨_,rfl⟩
 rw [hn,hm]
 have hn9:n≤1000:=by omega
 have HN:=Lib.hid hn
 have HM:=Lib.hid hm
 have HSZ:=Lib.hid hs1
 have hba:=(Below.refl w1.heap.size w1).alloc (Nat.le_refl _) (.cells #[.slice At n ct,.slice As m cs] 26)
 have h2n:=heap_alloc_new w1 (.cells #[.slice At n ct,.slice As m cs] 26)
 have h2z:w1.heap.size+1≤(w1.alloc (.cells #[.slice At n ct,.slice As m cs] 26)).heap.size:=Nat.le_of_eq (by simp)
 obtain ⟨w2,hw2⟩:∃ w2,w1.alloc (.cells #[.slice At n ct,.slice As m cs] 26)=w2:=⟨_,rfl⟩
 have T2:=Lib.hid (hr1.1.below hba (Nat.le_trans (Nat.le_refl _) hba.size))
 have R2:=Lib.hid (hr1.2.below hba (Nat.le_trans (Nat.le_refl _) hba.size))
 have B2:=Lib.hid (hb1.trans (hba.mono h1s))
 rw [hw2] at T2 R2 B2 h2n h2z
 have P2:=Lib.hid h2n
 clear hn hm hba hr1 ht1 hs1 hb1 h2n HD
 obtain ⟨PB,hPB⟩:∃ PB,w1.heap.size=PB:=⟨_,rfl⟩
 rw [hPB] at P2 h2z h1s
 have hPW:W.heap.size≤PB:=h1s
 have hP2:PB<w2.heap.size:=h2z
 have HC:=implPlacedLoans_any ts s At As ct cs a w2 T2.out R2.out (tab_below hTab hg B2.out) (by have:=B2.out.size;omega)
 rw [HN.out,HM.out] at HC
 replace HC:=Lib.hid HC
 have p0:w2.cell? ⟨PB,0,none⟩=some (.slice At n ct):=(cB P2.out 0).trans rfl
 have p1:w2.cell? ⟨PB,1,none⟩=some (.slice As m cs):=(cB P2.out 1).trans rfl
 go_upto_region 4 with (fail)
 clear hw2 hPB
 go_wp2_with fail
 refine HC.out.mono ?_
 rintro E w3 ⟨v3,l3,rfl,hrow3,hans3,hb3⟩
 obtain ⟨q3,hl3⟩:∃ q,l3.length=q:=⟨_,rfl⟩
 obtain ⟨A3,c3,hv3,hle3,hmx3⟩:=rowI_formN hrow3 hl3
 have hq3:q3≤64:=by rw [← hl3];exact hans3.length
 have HL3:=Lib.hid hl3
 have HA3:=Lib.hid hans3
 clear hl3 hans3
 subst hv3
 unfold maxLen at hmx3
 have G3:=Lib.hid hrow3.intsV
 have hz3:=hb3.size
 have T3:=Lib.hid (T2.out.below hb3 hz3)
 have R3:=Lib.hid (R2.out.below hb3 hz3)
 have P3:=Lib.hid ((hb3.block PB (by omega)).trans P2.out)
 have B3:=Lib.hid (B2.out.trans (hb3.mono (by omega)))
 have hP3:PB<w3.heap.size:=by omega
 clear hrow3 hb3 HC p0 p1
 have HC:=specPlacedLoans_any ts s At As ct cs a w3 (by have:=HSZ.out;omega) T3.out R3.out
 rw [HN.out,HM.out] at HC
 replace HC:=Lib.hid HC
 have p0:w3.cell? ⟨PB,0,none⟩=some (.slice At n ct):=(cB P3.out 0).trans rfl
 have p1:w3.cell? ⟨PB,1,none⟩=some (.slice As m cs):=(cB P3.out 1).trans rfl
 go_wp2_with fail
 refine HC.out.mono ?_
 rintro E w4 ⟨v4,l4,rfl,hrow4,hans4,hb4⟩
 rw [hans4.unique HA3.out] at hrow4
 clear hans4
 obtain ⟨A4,c4,hv4,hle4,hmx4⟩:=rowI_formN hrow4 HL3.out
 subst hv4
 unfold maxLen at hmx4
 have G4:=Lib.hid hrow4.intsV
 have hz4:=hb4.size
 have T4:=Lib.hid (T3.out.below hb4 hz4)
 have R4:=Lib.hid (R3.out.below hb4 hz4)
 have P4:=Lib.hid ((hb4.block PB (by omega)).trans P3.out)
 have B4:=Lib.hid (B3.out.trans (hb4.mono (by omega)))
 have hP4:PB<w4.heap.size:=by omega
 have G3:=Lib.hid (G3.out.below hb4 hz4)
 clear hrow4 hb4 HC p0 p1
 have HBC:=bcInts_any l3 l3 A3 A4 c3 c4 w4 G3.out G4.out
 rw [HL3.out,decide_eq_true rfl] at HBC
 replace HBC:=Lib.hid HBC
 go_wp2_with fail
 refine HBC.out.mono ?_
 rintro E w5 ⟨rfl,hb5⟩
 have hz5:=hb5.size
 have T5:=Lib.hid (T4.out.below hb5 hz5)
 have R5:=Lib.hid (R4.out.below hb5 hz5)
 have P5:=Lib.hid ((hb5.block PB (by omega)).trans P4.out)
 have B5:=Lib.hid (B4.out.trans (hb5.mono (by omega)))
 have hP5:PB<w5.heap.size:=by omega
 clear hb5 HBC
 have HC:=implPlacedLoans_any ts s At As ct cs 0 w5 T5.out R5.out (tab_below hTab hg B5.out) (by have:=B5.out.size;omega)
 rw [HN.out,HM.out] at HC
 replace HC:=Lib.hid HC
 have p0:w5.cell? ⟨PB,0,none⟩=some (.slice At n ct):=(cB P5.out 0).trans rfl
 have p1:w5.cell? ⟨PB,1,none⟩=some (.slice As m cs):=(cB P5.out 1).trans rfl
 go_wp2_with fail
 refine HC.out.mono ?_
 rintro E w6 ⟨v6,l6,rfl,hrow6,hans6,hb6⟩
 obtain ⟨q6,hl6⟩:∃ q,l6.length=q:=⟨_,rfl⟩
 obtain ⟨A6,c6,hv6,hle6,hmx6⟩:=rowI_formN hrow6 hl6
 have hq6:q6≤64:=by rw [← hl6];exact hans6.length
 have HL6:=Lib.hid hl6
 have HA6:=Lib.hid hans6
 clear hl6 hans6
 subst hv6
 unfold maxLen at hmx6
 have G6:=Lib.hid hrow6.intsV
 have hz6:=hb6.size
 have T6:=Lib.hid (T5.out.below hb6 hz6)
 have R6:=Lib.hid (R5.out.below hb6 hz6)
 have P6:=Lib.hid ((hb6.block PB (by omega)).trans P5.out)
 have B6:=Lib.hid (B5.out.trans (hb6.mono (by omega)))
 have hP6:PB<w6.heap.size:=by omega
 clear hrow6 hb6 HC p0 p1
 go_wp2_with fail
 go_loopw [7] (fun i wr=>∃ k:Nat,k≤q6∧i=.int .i64 k∧Below w6.heap.size w6 wr) (fun i _=>q6-(intOf i).toNat)
 case atStart=>exact ⟨0,Nat.zero_le _,rfl,Below.refl _ _⟩
 case round =>
  obtain ⟨k,hk,rfl,hb⟩:=hrel
  have hzr:=hb.size
  have Tr:=Lib.hid (T6.out.below hb hzr)
  have Rr:=Lib.hid (R6.out.below hb hzr)
  have Pr:=Lib.hid ((hb.block PB (by omega)).trans P6.out)
  have Br:=Lib.hid (B6.out.trans (hb.mono (by omega)))
  have hPr:PB<wr.heap.size:=by omega
  have G6:=Lib.hid (G6.out.below hb hzr)
  by_cases hlt:k<q6
  ·have f1:IntKind.i64.wrap ((k:Int)+1)=(k:Int)+1:=IntWalk.i64_in _ (by omega)
   obtain ⟨b0,z,rfl,-,hbb,hx,hc⟩:=G6.out.elem (k:=k) (by rw [HL6.out];exact hlt)
   have HZM:Hid (z∈l6):=List.mem_of_getElem? hx
   clear hx
   have HPF:Hid (∀ w',Below wr.heap.size wr w'→Calls Tryz.prog 33 #[.agg #[.slice At n ct,.slice As m cs],.int .i64 z] w' fun E w''=>∃ (A:Option Addr) (c:Nat) (l:List Int) (q:Nat),E=.returned (.slice A q c)∧l.length=q∧IntsV w'' 0 w''.heap.size l A c∧decide ((0:Int)∈l)=true∧Below w'.heap.size w' w''):=fun w' hb=>by
    have h:=implPathsFrom_any ts s At As ct cs z w' (Tr.out.below hb hb.size) (Rr.out.below hb hb.size) (tab_below hTab hg (Br.out.trans (hb.mono (by have:=Br.out.size;omega)))) (by have:=Br.out.size;have:=hb.size;omega)
    rw [HN.out,HM.out] at h
    refine h.mono ?_
    rintro E w'' ⟨v,l,rfl,hrow,hans,hb2⟩
    obtain ⟨A,c,hv,-,-⟩:=rowI_formN hrow rfl
    subst hv
    exact ⟨A,c,l,_,rfl,rfl,hrow.intsV,decide_eq_true (first_back HA6.out HZM.out hans),hb2⟩
   have HBI:Hid (∀ (w':World) (A:Option Addr) (c:Nat) (l:List Int) (q:Nat),l.length=q→IntsV w' 0 w'.heap.size l A c→decide ((0:Int)∈l)=true→Calls Tryz.prog 24 #[.slice A q c,.int .i64 (0:Int)] w' fun e w''=>e=.returned (.bool true)∧Below w'.heap.size w' w''):=fun w' A c l q hq hI hd=>by
    subst hq
    have h:=bcIn_any l (0:Int) A c w' hI
    rw [hd] at h
    exact h
   have p0:wr.cell? ⟨PB,0,none⟩=some (.slice At n ct):=(cB Pr.out 0).trans rfl
   have p1:wr.cell? ⟨PB,1,none⟩=some (.slice As m cs):=(cB Pr.out 1).trans rfl
   have HS:Hid (∀ w',Below wr.heap.size wr w'→(Below wr.heap.size wr w'∧w'.cell? ⟨PB,0,none⟩=some (.slice At n ct)∧w'.cell? ⟨PB,1,none⟩=some (.slice As m cs)∧w'.cell? (b0.add k)=some (.int .i64 z))):=fun w' hb=>⟨hb,(hb.cell (by have:=Br.out.size;omega)).trans p0,(hb.cell (by have:=Br.out.size;omega)).trans p1,(hb.cell (by rw [block_add];exact hbb)).trans hc⟩
   go_upto_region 11 with (fail)
   go_region_held3 (fun w'=>Below wr.heap.size wr w'∧w'.cell? ⟨PB,0,none⟩=some (.slice At n ct)∧w'.cell? ⟨PB,1,none⟩=some (.slice As m cs)∧w'.cell? (b0.add k)=some (.int .i64 z))
    (first | with_reducible exact HS.out _ ((Below.refl wr.heap.size wr).drew) | with_reducible exact HS.out _ (Below.refl wr.heap.size wr) | with_reducible exact HS.out _ ((And.left ‹Below wr.heap.size wr _∧_›).trans (hbn.mono (And.left ‹Below wr.heap.size wr _∧_›).size)))
    (first
     | (go_at_call 33;(with_reducible refine (HPF.out _ (And.left ‹Below wr.heap.size wr _∧_›)).mono ?_);rintro E w' ⟨A9,c9,l9,q9,rfl,hq9,hI9,hin9,hbn⟩)
     | (go_at_call 24;(with_reducible refine (HBI.out _ _ _ _ _ hq9 hI9 hin9).mono ?_);rintro E w' ⟨rfl,hbn⟩))
   all_goals
    have hbl:=(And.left ‹Below wr.heap.size wr _∧_›)
    have B9:=hb.trans (hbl.mono hzr)
    clear hbl
    go_wp2_with fail
    go_roundw
    case rel=>exact ⟨k+1,by omega,by go_num,B9⟩
    case measure=>simp [intOf];omega
  ·have hk':k=q6:=by omega
   have hkq:decide ((k:Int)<(q6:Int))=false:=decide_eq_false (by omega)
   have B7:=Lib.hid Br.out
   go_wp2_with fail
   go_ret
   exact ⟨rfl,B7.out⟩
theorem cellsByte:Tryz.prog.cellsOf 5=1:=by kernel_rfl
theorem read_bytes {H:Type} {enc:TypeId × Value→H} {W:World} {spare:Nat→Bool} {held:Bool} {fuel:Nat} {v:Value} {x:DataW H × List MemPlace} (h:DataW.trod enc Tryz.prog W 0 spare held fuel 22 [v]=some x) :
  ∃ (n:Nat) (A:Option Addr) (c:Nat),v=.slice A n c∧ByteV W W.heap.size n A c:=by
 rcases DataW.trod_slice Tryz.underlying22 h with ⟨hcs,_⟩ | ⟨a,len,cap,elems,rest,n,_,hcs,_,_,hl,hm,hlen,hel,_⟩
 ·injection hcs with hcs _
  exact ⟨0,none,0,hcs,by simp,by simp [maxLen],fun h=>absurd h (by simp)⟩
 ·injection hcs with hcs _
  have hex:∀ i,i<len→∃ z:Int,W.cell? (a.add i)=some (.int .u8 z)∧0≤z∧z≤255:=by
   intro i hi
   have h1:=hel i hi
   rw [cellsByte,Nat.mul_one,List.getElem?_eq_getElem (by omega)] at h1
   obtain ⟨cs',hc,ht⟩:=Option.bind_eq_some_iff.1 h1
   obtain ⟨_,_,hat⟩:=World.cells?_some hc
   obtain ⟨z,rfl,_,hwf⟩:=DataW.trod_int Tryz.underlying5 ht
   have hz:0≤z∧z≤255:=by simpa [Lit.wf,IntKind.min,IntKind.max,IntKind.signed,IntKind.bits] using hwf
   exact ⟨z,by simpa [Addr.add] using hat 0 (by omega),hz.1,hz.2⟩
  refine ⟨len,some a,cap,hcs,hl,hm,fun h0=>⟨a,rfl,?_,hex⟩⟩
  obtain ⟨z,hz,_⟩:=hex 0 h0
  have:=World.block_lt_of_cell? W _ hz
  rwa [block_add] at this
theorem own:ownKnob Tryz.prog.godebug=none:=by kernel_rfl
theorem laidOut:laidOutB Tryz.prog=true:=by kernel_rfl
set_option maxRecDepth 100000 in
theorem lifted (os:Os) (started:os.Started) (H:Type) (enc:TypeId × Value→H) :
  ReturnsInHanded {} Tryz.checked os 8 .any (fun w args=>(Rows.fnFirstLoansSpec.pre enc Tryz.prog Tryz.f8 [] false w args∧laidMetH Tryz.prog listed w)∧sizedMet enc Tryz.prog Tryz.f8 (OpenSpec.ofChange Rows.fnFirstLoansSpec) false w args)
   (Rows.fnFirstLoansSpec.post enc Tryz.prog Tryz.f8 false true false false):=by
 refine returnsInHanded_of_change_and (C:=Tryz.checked) (X:=fun w _=>laidMetH Tryz.prog listed w) (fun _ _ _ hh h=>h.of_heap hh) own started (by kernel_rfl) Tryz.func8
  (ChangeSpec.witness_shaped (enc:=enc) (C:=Tryz.checked) (os:=os) (X:=fun w _=>laidMetH Tryz.prog listed w) false (World.doorLaid Tryz.prog 400 os) #[.slice none 0 0] 8 rfl (World.shaped_of_RefB (by kernel_rfl) (by kernel_rfl)) (by kernel_rfl) (by kernel_rfl) (by kernel_rfl) (door_met os _)) ?_
 intro W base args ds gs before hval0 hW _ _ hL _
 have hval:∀ (j:Nat) t v,Tryz.f8.params[j]?=some t→args[j]?=some v→Value.okWide Tryz.prog W .any base t v:=hval0
 have hW':=hW
 obtain ⟨p,q,hA0,hV,rfl,hfz,hnd⟩:=hW
 have hA:DataW.TrodAll enc Tryz.prog W 0 (fun _=>true) true Tryz.f8.params.toList args.toList ds p:=hA0
 rw [Tryz.params8] at hA hval
 obtain ⟨v0,vs0,d0,ds0,p0,q0,hargs,rfl,rfl,h0,r0⟩:=trodAll_cons hA
 obtain ⟨rfl,rfl,rfl⟩:=trodAll_nil r0
 obtain rfl:args=#[v0]:=by cases args;simp_all
 obtain ⟨rfl,rfl⟩:=trodVars_none hV
 have k0:=h0
 have lt0:∀ x∈p0,x.block<W.heap.size:=by obtain ⟨m,hm⟩:=k0;exact DataW.trod_lt m _ _ _ hm
 obtain ⟨a0,len0,cap0,rfl⟩:=okWide_slice Tryz.underlying22 (hval 0 22 v0 rfl rfl)
 obtain ⟨fu0,hf0⟩:=h0
 obtain ⟨nb0,At0,ct0,hv0,hT0⟩:=read_bytes hf0
 injection hv0 with hv0 hv0' hv0''
 subst hv0 hv0' hv0''
 obtain ⟨hTab,hTabLt⟩:=tab_of_laid hL
 clear hA0 hval0
 simp only [List.append_nil] at hW'
 refine (walk _ _ _ W hT0 hTab hTabLt).mono fun e W' ⟨he,bel⟩=>?_
 subst he
 exact ⟨_,rfl,_,_,_,[],_,[],hW',trodAll_mk1 (shut_bool Tryz.underlying4 _),(trodAll_cons_mk (Below.trod laidOut (by kernel_rfl) (of_decide_eq_true (by kernel_rfl)) k0 bel lt0) trodAll_mk0),rfl,bel.frame _,fun h=>by cases h⟩
theorem over:Rows.fnFirstLoansRow.holds Tryz.pinned (OpenSpec.ofChange Rows.fnFirstLoansSpec) :=
 OpenClaim.holds_of_wide 8 Tryz.f8 rfl rfl rfl rfl rfl rfl rfl ⟨rfl,rfl,rfl,rfl,rfl⟩ rfl rfl rfl rfl rfl (by kernel_rfl) Tryz.func8 (by kernel_rfl)
  (of_decide_eq_true (by kernel_rfl)) (by unfold Func.isWrapper;first | (rw [if_pos (by decide +kernel)];kernel_rfl) | (rw [if_neg (by decide +kernel)];exact ⟨rfl,rfl⟩))
  (fun os started H enc _=>lifted os started H enc)
set_option maxRecDepth 100000 in
theorem proved:Rows.FnFirstLoansCardSaid :=
 Claim7.holds_tied_plain_at .later [] [.data] true (true, "20a3894989218b0769602756e3096f731b7b576747fe359447f5159343af2ab9") false
  over (fun _ h=>by cases h) (by kernel_rfl) (fun _ h=>by cases h) fnFirstLoans_row_tie rfl ⟨rfl,rfl⟩ (by kernel_rfl) rfl
  (fun f fn hf hfn=>by
   obtain rfl:f=8:=Option.some.inj ((show Tryz.prog.funcNamed "loop.example/borrowcheck/laws.FnFirstLoans" = some 8 by kernel_rfl).symm.trans hf) |>.symm
   obtain rfl:fn=Tryz.f8:=(Option.some.inj (Tryz.func8.symm.trans hfn)).symm
   exact ⟨by kernel_rfl,fun j t ht=>by
    rw [Tryz.params8] at ht
    have hm:t∈[22]:=by simpa using Array.mem_of_getElem? ht
    have hall:([22].all fun u=>!Tryz.prog.wantsStandIn u)=true:=by kernel_rfl
    exact (show Tryz.prog.wantsStandIn t=false by simpa using List.all_eq_true.1 hall t hm)⟩)
  (by kernel_rfl)
#print axioms proved
end Go.Proofs.YtopibompapopiaaGreatDoor.fnFirstLoans
