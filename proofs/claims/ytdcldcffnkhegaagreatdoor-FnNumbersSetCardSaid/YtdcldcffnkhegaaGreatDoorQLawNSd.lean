/-
  Whatever the bytes: a variable that can have some number can have a value and is a number,and the numbers are the model's. Conditions: none.
-/
import Derived.Test.YtdcldcffnkhegaaGreatDoorQPuG
import Derived.Test.YtdcldcffnkhegaaGreatDoorQBcG
import Derived.Test.YtdcldcffnkhegaaGreatDoorQTrP
import Derived.Test.YtdcldcffnkhegaaGreatDoorQDrNumbersOf
import Derived.Test.YtdcldcffnkhegaaGreatDoorQTrI
import Derived.Test.YtdcldcffnkhegaaGreatDoorQTrS
import Derived.Test.YtdcldcffnkhegaaGreatDoorQMaybeJ
import Derived.Test.YtdcldcffnkhegaaGreatDoorQTab
import Derived.Test.YtdcldcffnkhegaaGreatDoorRows
import Derived.Test.YtdcldcffnkhegaaGreatDoorCards
import Derived.Test.YtdcldcffnkhegaaGreatDoorTie
import Derived.LaidMore
import Derived.SevenTiedAt
import Derived.WalkKit
import Derived.ProofKit
import Derived.OpenShut
import Derived.Lib.SmallJoins
import Derived.Deep.RegionHeld3
namespace Go.Proofs.YtdcldcffnkhegaaGreatDoor.fnNumbersSet
open Go.ChangeShapes Go.WideShapes Go.ChangeAt Go.RowKit Go.Deep Go.Joins
set_option linter.unusedVariables false
theorem rowI_formN {w:World} {B n:Nat} {v:Value} {xs:List Int} (h:RowI w B v xs) (hn:xs.length=n):∃ A c,v=.slice A n c∧n≤c∧c≤maxLen:=by
 obtain ⟨A,c,h1,h2,h3,_⟩:=own_form h.own
 subst hn
 exact ⟨A,c,h1,h2,h3⟩
theorem rowI_form {w:World} {B:Nat} {v:Value} {xs:List Int} (h:RowI w B v xs):∃ A c,v=.slice A xs.length c∧xs.length≤c∧c≤maxLen:=rowI_formN h rfl
theorem tyAt_el {ts:List Int} {A:Option Addr} {c k:Nat} {w:World} (hT:IntsV w 0 w.heap.size ts A c) (hk:k<ts.length):∃ b,A=some b∧b.block<w.heap.size∧w.cell? (b.add k)=some (.int .i64 (tyAt ts k)):=by
 obtain ⟨b,u,hA,-,hbb,hx,hc⟩:=hT.elem hk
 have e0:tyAt ts k=u:=by
  unfold tyAt
  rw [if_neg (by omega)]
  simp [hx]
 rw [e0]
 exact ⟨b,hA,hbb,hc⟩
theorem ans_has {q:Nat} {ts:List Int} {s:Sts} {a v z:Int} {l3:List Int} (h3:AnsAt (tr.TrIn q ts v) (validB ts s) s a l3) (hz:z∈l3):∃ (k u:Nat),validB ts s=true∧0≤a∧a<((progPts s).length:Int)∧z=(k:Int)∧v=(u:Int)∧u<6∧tr.TrB q ts (progPts s) a.toNat u k:=by
 obtain ⟨hv,h0,h1,k,rfl,hk⟩:=(h3.mem z).1 hz
 obtain ⟨hv0,hv6,hb⟩:=(show tr.TrIn q ts v (progPts s) a.toNat k from hk)
 exact ⟨k,v.toNat,hv,h0,h1,rfl,by omega,by omega,hb⟩
theorem ans_some {R:List Nd→Nat→Nat→Prop} {ok:Bool} {s:Sts} {a:Int} {l3:List Int} (hne:l3.length≠0):∃ z,z∈l3:=by
 cases l3 with
 | nil=>exact absurd rfl hne
 | cons z _=>exact ⟨z,by simp⟩
theorem some_may {q:Nat} {ts:List Int} {s:Sts} {a v:Int} {l3 l:List Int} (h3:AnsAt (tr.TrIn q ts v) (validB ts s) s a l3) (hne:l3.length≠0) (h:AnsAt (flowSome.Rel ts) (validB ts s) s a l):v∈l:=by
 obtain ⟨z,hz⟩:=ans_some (R:=tr.TrIn q ts v) (ok:=validB ts s) (s:=s) (a:=a) hne
 obtain ⟨k,u,hv,h0,h1,rfl,rfl,hu,hb⟩:=ans_has h3 hz
 rw [h.mem]
 exact ⟨hv,h0,h1,u,rfl,hb.may⟩
theorem num_type {ts:List Int} {s:Sts} {a v:Int} {l3:List Int} (h3:AnsAt (tr.TrIn 2 ts v) (validB ts s) s a l3) (hne:l3.length≠0):∃ u:Nat,v=(u:Int)∧u<ts.length∧tyAt ts (u:Int)=1:=by
 obtain ⟨z,hz⟩:=ans_some (R:=tr.TrIn 2 ts v) (ok:=validB ts s) (s:=s) (a:=a) hne
 obtain ⟨k,u,hv,h0,h1,rfl,rfl,hu,hb⟩:=ans_has h3 hz
 exact ⟨u,rfl,(tr.TrB.dom (progPts_allTyped hv) hb).1,hb.num (progPts_allTyped hv)⟩
set_option maxRecDepth 100000 in
set_option maxHeartbeats 2000000 in
theorem walk (n0 c0:Nat) (A0:Option Addr) (W:World) (hB:ByteV W W.heap.size n0 A0 c0) (hTab:TabAt 0 Lib.deBruijn64tab W) (hg:0<W.heap.size) :
  Calls Tryz.prog 9 #[.slice A0 n0 c0] W fun e w'=>e=.returned (.bool true)∧Below W.heap.size W w':=by
 have hnc:=hB.1
 have hcm:=hB.2.1
 unfold maxLen at hcm
 by_cases hn:1048576<n0
 ·go_enter Tryz.func9,Tryz.ntmps9
  go_wp2_with fail
  go_ret
  exact ⟨rfl,Below.refl _ _⟩
 have e1:decide (1048576<(n0:Int))=false:=decide_eq_false (by omega)
 have HD:=Lib.hid (drawNumbersOf_any n0 c0 A0 W hB)
 clear hB
 go_enter Tryz.func9,Tryz.ntmps9
 go_wp2_with fail
 refine HD.out.mono ?_
 rintro E w1 ⟨ts,s,At,As,ct,cs,a,v,rfl,hr1,ht1,hs1,hq,hb1⟩
 have h1s:=hb1.size
 obtain ⟨n,hn⟩:∃ n,ts.length=n:=⟨_,rfl⟩
 obtain ⟨m,hm⟩:∃ m,s.len=m:=⟨_,rfl⟩
 rw [hn,hm]
 have hn9:n≤1000:=by omega
 have HN:=Lib.hid hn
 have HM:=Lib.hid hm
 have HSZ:=Lib.hid hs1
 have hba:=(Below.refl w1.heap.size w1).alloc (Nat.le_refl _) (.cells #[.slice At n ct,.slice As m cs] 26)
 have h2n:=heap_alloc_new w1 (.cells #[.slice At n ct,.slice As m cs] 26)
 have h2z:w1.heap.size+1≤(w1.alloc (.cells #[.slice At n ct,.slice As m cs] 26)).heap.size:=Nat.le_of_eq (by simp)
 obtain ⟨w2,hw2⟩:∃ w2,w1.alloc (.cells #[.slice At n ct,.slice As m cs] 26)=w2:=⟨_,rfl⟩
 have T2:=Lib.hid (hr1.1.below hba (Nat.le_trans (Nat.le_refl _) hba.size))
 have R2:=Lib.hid (hr1.2.below hba (Nat.le_trans (Nat.le_refl _) hba.size))
 have B2:=Lib.hid (hb1.trans (hba.mono h1s))
 rw [hw2] at T2 R2 B2 h2n h2z
 have P2:=Lib.hid h2n
 clear hn hm hba hr1 ht1 hs1 hb1 h2n HD
 obtain ⟨PB,hPB⟩:∃ PB,w1.heap.size=PB:=⟨_,rfl⟩
 rw [hPB] at P2 h2z h1s
 have hPW:W.heap.size≤PB:=h1s
 have hP2:PB<w2.heap.size:=h2z
 have HC:=tr.implNumbersOf_any ts s At As ct cs a v w2 T2.out R2.out (tab_below hTab hg B2.out) (by have:=B2.out.size;omega)
 rw [HN.out,HM.out] at HC
 replace HC:=Lib.hid HC
 have p0:w2.cell? ⟨PB,0,none⟩=some (.slice At n ct):=(cB P2.out 0).trans rfl
 have p1:w2.cell? ⟨PB,1,none⟩=some (.slice As m cs):=(cB P2.out 1).trans rfl
 go_upto_region 4 with (fail)
 clear hw2 hPB
 go_wp2_with fail
 refine HC.out.mono ?_
 rintro E w3 ⟨v3,l3,rfl,hrow3,hans3,hb3⟩
 obtain ⟨q3,hl3⟩:∃ q,l3.length=q:=⟨_,rfl⟩
 obtain ⟨A3,c3,hv3,hle3,hmx3⟩:=rowI_formN hrow3 hl3
 have hq3:q3≤64:=by rw [← hl3];exact hans3.length
 have HL3:=Lib.hid hl3
 have HA3:=Lib.hid hans3
 clear hl3 hans3
 subst hv3
 unfold maxLen at hmx3
 have G3:=Lib.hid hrow3.intsV
 have hz3:=hb3.size
 have T3:=Lib.hid (T2.out.below hb3 hz3)
 have R3:=Lib.hid (R2.out.below hb3 hz3)
 have P3:=Lib.hid ((hb3.block PB (by omega)).trans P2.out)
 have B3:=Lib.hid (B2.out.trans (hb3.mono (by omega)))
 have hP3:PB<w3.heap.size:=by omega
 clear hrow3 hb3 HC p0 p1
 have HC:=tr.specNumbersOf_any ts s At As ct cs a v w3 (by have:=HSZ.out;omega) T3.out R3.out
 rw [HN.out,HM.out] at HC
 replace HC:=Lib.hid HC
 have p0:w3.cell? ⟨PB,0,none⟩=some (.slice At n ct):=(cB P3.out 0).trans rfl
 have p1:w3.cell? ⟨PB,1,none⟩=some (.slice As m cs):=(cB P3.out 1).trans rfl
 go_wp2_with fail
 refine HC.out.mono ?_
 rintro E w4 ⟨v4,l4,rfl,hrow4,hans4,hb4⟩
 rw [hans4.unique HA3.out] at hrow4
 clear hans4
 obtain ⟨A4,c4,hv4,hle4,hmx4⟩:=rowI_formN hrow4 HL3.out
 subst hv4
 unfold maxLen at hmx4
 have G4:=Lib.hid hrow4.intsV
 have hz4:=hb4.size
 have T4:=Lib.hid (T3.out.below hb4 hz4)
 have R4:=Lib.hid (R3.out.below hb4 hz4)
 have P4:=Lib.hid ((hb4.block PB (by omega)).trans P3.out)
 have B4:=Lib.hid (B3.out.trans (hb4.mono (by omega)))
 have hP4:PB<w4.heap.size:=by omega
 have G3:=Lib.hid (G3.out.below hb4 hz4)
 clear hrow4 hb4 HC p0 p1
 have HBC:=bcInts_any l3 l3 A3 A4 c3 c4 w4 G3.out G4.out
 rw [HL3.out,decide_eq_true rfl] at HBC
 replace HBC:=Lib.hid HBC
 go_wp2_with fail
 refine HBC.out.mono ?_
 rintro E w5 ⟨rfl,hb5⟩
 have hz5:=hb5.size
 have T5:=Lib.hid (T4.out.below hb5 hz5)
 have R5:=Lib.hid (R4.out.below hb5 hz5)
 have P5:=Lib.hid ((hb5.block PB (by omega)).trans P4.out)
 have B5:=Lib.hid (B4.out.trans (hb5.mono (by omega)))
 have hP5:PB<w5.heap.size:=by omega
 have G3:=Lib.hid (G3.out.below hb5 hz5)
 clear hb5 HBC
 by_cases hq0:q3=0
 ·subst hq0
  have HC:=tr.specNumbersOf_any ts s At As ct cs a v w5 (by have:=HSZ.out;omega) T5.out R5.out
  rw [HN.out,HM.out] at HC
  replace HC:=Lib.hid HC
  have p0:w5.cell? ⟨PB,0,none⟩=some (.slice At n ct):=(cB P5.out 0).trans rfl
  have p1:w5.cell? ⟨PB,1,none⟩=some (.slice As m cs):=(cB P5.out 1).trans rfl
  go_wp2_with fail
  refine HC.out.mono ?_
  rintro E w6 ⟨v6,l6,rfl,hrow6,hans6,hb6⟩
  rw [hans6.unique HA3.out] at hrow6
  clear hans6
  obtain ⟨A6,c6,hv6,hle6,hmx6⟩:=rowI_formN hrow6 HL3.out
  subst hv6
  unfold maxLen at hmx6
  have G6:=Lib.hid hrow6.intsV
  have hz6:=hb6.size
  have T6:=Lib.hid (T5.out.below hb6 hz6)
  have R6:=Lib.hid (R5.out.below hb6 hz6)
  have P6:=Lib.hid ((hb6.block PB (by omega)).trans P5.out)
  have B6:=Lib.hid (B5.out.trans (hb6.mono (by omega)))
  have hP6:PB<w6.heap.size:=by omega
  have G3:=Lib.hid (G3.out.below hb6 hz6)
  clear hrow6 hb6 HC p0 p1
  have HBC:=bcInts_any l3 l3 A3 A6 c3 c6 w6 G3.out G6.out
  rw [HL3.out,decide_eq_true rfl] at HBC
  replace HBC:=Lib.hid HBC
  go_wp2_with fail
  refine HBC.out.mono ?_
  rintro E w7 ⟨rfl,hb7⟩
  have hz7:=hb7.size
  have T7:=Lib.hid (T6.out.below hb7 hz7)
  have R7:=Lib.hid (R6.out.below hb7 hz7)
  have P7:=Lib.hid ((hb7.block PB (by omega)).trans P6.out)
  have B7:=Lib.hid (B6.out.trans (hb7.mono (by omega)))
  have hP7:PB<w7.heap.size:=by omega
  clear hb7 HBC
  go_wp2_with fail
  go_ret
  exact ⟨rfl,B7.out⟩
 have hq1:((q3:Int)==0)=false:=by simp;omega
 have hq2:(q3==0)=false:=by simp;omega
 have HRE:Hid (∀ l,AnsAt (flowSome.Rel ts) (validB ts s) s a l→v∈l):=fun l hl=>some_may HA3.out (by rw [HL3.out];exact hq0) hl
 obtain ⟨u,hu,hut,hty⟩:=num_type HA3.out (by rw [HL3.out];exact hq0)
 subst hu
 have hun:u<n:=by rw [← HN.out];exact hut
 have HUT:=Lib.hid hut
 have HTY:=Lib.hid hty
 clear hut hty
 have HC:=flowSome.implMaybeSet_any ts s At As ct cs a w5 T5.out R5.out (tab_below hTab hg B5.out) (by have:=B5.out.size;omega)
 rw [HN.out,HM.out] at HC
 replace HC:=Lib.hid HC
 have p0:w5.cell? ⟨PB,0,none⟩=some (.slice At n ct):=(cB P5.out 0).trans rfl
 have p1:w5.cell? ⟨PB,1,none⟩=some (.slice As m cs):=(cB P5.out 1).trans rfl
 go_wp2_with fail
 refine HC.out.mono ?_
 rintro E w6 ⟨v6,l6,rfl,hrow6,hans6,hb6⟩
 obtain ⟨q6,hl6⟩:∃ q,l6.length=q:=⟨_,rfl⟩
 obtain ⟨A6,c6,hv6,hle6,hmx6⟩:=rowI_formN hrow6 hl6
 have hq6:q6≤64:=by rw [← hl6];exact hans6.length
 have HL6:=Lib.hid hl6
 have HA6:=Lib.hid hans6
 clear hl6 hans6
 subst hv6
 unfold maxLen at hmx6
 have G6:=Lib.hid hrow6.intsV
 have hz6:=hb6.size
 have T6:=Lib.hid (T5.out.below hb6 hz6)
 have R6:=Lib.hid (R5.out.below hb6 hz6)
 have P6:=Lib.hid ((hb6.block PB (by omega)).trans P5.out)
 have B6:=Lib.hid (B5.out.trans (hb6.mono (by omega)))
 have hP6:PB<w6.heap.size:=by omega
 clear hrow6 hb6 HC p0 p1
 have HCI:=bcIn_any l6 u A6 c6 w6 G6.out
 rw [HL6.out,decide_eq_true (HRE.out _ HA6.out)] at HCI
 replace HCI:=Lib.hid HCI
 go_wp2_with fail
 refine HCI.out.mono ?_
 rintro E w7 ⟨rfl,hb7⟩
 have hz7:=hb7.size
 have T7:=Lib.hid (T6.out.below hb7 hz7)
 have R7:=Lib.hid (R6.out.below hb7 hz7)
 have P7:=Lib.hid ((hb7.block PB (by omega)).trans P6.out)
 have B7:=Lib.hid (B6.out.trans (hb7.mono (by omega)))
 have hP7:PB<w7.heap.size:=by omega
 obtain ⟨bt,hbe,hbt,hct⟩:=tyAt_el T7.out HUT.out
 rw [HTY.out] at hct
 have p0:w7.cell? ⟨PB,0,none⟩=some (.slice At n ct):=(cB P7.out 0).trans rfl
 subst hbe
 clear hb7 HCI
 go_wp2_with fail
 go_ret
 exact ⟨rfl,B7.out⟩
theorem cellsByte:Tryz.prog.cellsOf 5=1:=by kernel_rfl
theorem read_bytes {H:Type} {enc:TypeId × Value→H} {W:World} {spare:Nat→Bool} {held:Bool} {fuel:Nat} {v:Value} {x:DataW H × List MemPlace} (h:DataW.trod enc Tryz.prog W 0 spare held fuel 22 [v]=some x) :
  ∃ (n:Nat) (A:Option Addr) (c:Nat),v=.slice A n c∧ByteV W W.heap.size n A c:=by
 rcases DataW.trod_slice Tryz.underlying22 h with ⟨hcs,_⟩ | ⟨a,len,cap,elems,rest,n,_,hcs,_,_,hl,hm,hlen,hel,_⟩
 ·injection hcs with hcs _
  exact ⟨0,none,0,hcs,by simp,by simp [maxLen],fun h=>absurd h (by simp)⟩
 ·injection hcs with hcs _
  have hex:∀ i,i<len→∃ z:Int,W.cell? (a.add i)=some (.int .u8 z)∧0≤z∧z≤255:=by
   intro i hi
   have h1:=hel i hi
   rw [cellsByte,Nat.mul_one,List.getElem?_eq_getElem (by omega)] at h1
   obtain ⟨cs',hc,ht⟩:=Option.bind_eq_some_iff.1 h1
   obtain ⟨_,_,hat⟩:=World.cells?_some hc
   obtain ⟨z,rfl,_,hwf⟩:=DataW.trod_int Tryz.underlying5 ht
   have hz:0≤z∧z≤255:=by simpa [Lit.wf,IntKind.min,IntKind.max,IntKind.signed,IntKind.bits] using hwf
   exact ⟨z,by simpa [Addr.add] using hat 0 (by omega),hz.1,hz.2⟩
  refine ⟨len,some a,cap,hcs,hl,hm,fun h0=>⟨a,rfl,?_,hex⟩⟩
  obtain ⟨z,hz,_⟩:=hex 0 h0
  have:=World.block_lt_of_cell? W _ hz
  rwa [block_add] at this
theorem own:ownKnob Tryz.prog.godebug=none:=by kernel_rfl
theorem laidOut:laidOutB Tryz.prog=true:=by kernel_rfl
set_option maxRecDepth 100000 in
theorem lifted (os:Os) (started:os.Started) (H:Type) (enc:TypeId × Value→H) :
  ReturnsInHanded {} Tryz.checked os 9 .any (fun w args=>(Rows.fnNumbersSetSpec.pre enc Tryz.prog Tryz.f9 [] false w args∧laidMetH Tryz.prog listed w)∧sizedMet enc Tryz.prog Tryz.f9 (OpenSpec.ofChange Rows.fnNumbersSetSpec) false w args)
   (Rows.fnNumbersSetSpec.post enc Tryz.prog Tryz.f9 false true false false):=by
 refine returnsInHanded_of_change_and (C:=Tryz.checked) (X:=fun w _=>laidMetH Tryz.prog listed w) (fun _ _ _ hh h=>h.of_heap hh) own started (by kernel_rfl) Tryz.func9
  (ChangeSpec.witness_shaped (enc:=enc) (C:=Tryz.checked) (os:=os) (X:=fun w _=>laidMetH Tryz.prog listed w) false (World.doorLaid Tryz.prog 400 os) #[.slice none 0 0] 8 rfl (World.shaped_of_RefB (by kernel_rfl) (by kernel_rfl)) (by kernel_rfl) (by kernel_rfl) (by kernel_rfl) (door_met os _)) ?_
 intro W base args ds gs before hval0 hW _ _ hL _
 have hval:∀ (j:Nat) t v,Tryz.f9.params[j]?=some t→args[j]?=some v→Value.okWide Tryz.prog W .any base t v:=hval0
 have hW':=hW
 obtain ⟨p,q,hA0,hV,rfl,hfz,hnd⟩:=hW
 have hA:DataW.TrodAll enc Tryz.prog W 0 (fun _=>true) true Tryz.f9.params.toList args.toList ds p:=hA0
 rw [Tryz.params9] at hA hval
 obtain ⟨v0,vs0,d0,ds0,p0,q0,hargs,rfl,rfl,h0,r0⟩:=trodAll_cons hA
 obtain ⟨rfl,rfl,rfl⟩:=trodAll_nil r0
 obtain rfl:args=#[v0]:=by cases args;simp_all
 obtain ⟨rfl,rfl⟩:=trodVars_none hV
 have k0:=h0
 have lt0:∀ x∈p0,x.block<W.heap.size:=by obtain ⟨m,hm⟩:=k0;exact DataW.trod_lt m _ _ _ hm
 obtain ⟨a0,len0,cap0,rfl⟩:=okWide_slice Tryz.underlying22 (hval 0 22 v0 rfl rfl)
 obtain ⟨fu0,hf0⟩:=h0
 obtain ⟨nb0,At0,ct0,hv0,hT0⟩:=read_bytes hf0
 injection hv0 with hv0 hv0' hv0''
 subst hv0 hv0' hv0''
 obtain ⟨hTab,hTabLt⟩:=tab_of_laid hL
 clear hA0 hval0
 simp only [List.append_nil] at hW'
 refine (walk _ _ _ W hT0 hTab hTabLt).mono fun e W' ⟨he,bel⟩=>?_
 subst he
 exact ⟨_,rfl,_,_,_,[],_,[],hW',trodAll_mk1 (shut_bool Tryz.underlying4 _),(trodAll_cons_mk (Below.trod laidOut (by kernel_rfl) (of_decide_eq_true (by kernel_rfl)) k0 bel lt0) trodAll_mk0),rfl,bel.frame _,fun h=>by cases h⟩
theorem over:Rows.fnNumbersSetRow.holds Tryz.pinned (OpenSpec.ofChange Rows.fnNumbersSetSpec) :=
 OpenClaim.holds_of_wide 9 Tryz.f9 rfl rfl rfl rfl rfl rfl rfl ⟨rfl,rfl,rfl,rfl,rfl⟩ rfl rfl rfl rfl rfl (by kernel_rfl) Tryz.func9 (by kernel_rfl)
  (of_decide_eq_true (by kernel_rfl)) (by unfold Func.isWrapper;first | (rw [if_pos (by decide +kernel)];kernel_rfl) | (rw [if_neg (by decide +kernel)];exact ⟨rfl,rfl⟩))
  (fun os started H enc _=>lifted os started H enc)
set_option maxRecDepth 100000 in
theorem proved:Rows.FnNumbersSetCardSaid :=
 Claim7.holds_tied_plain_at .later [] [.data] true (true, "a8cee4c2774af7e9bec96c1cf39a97fded44048fc6d579c08f505256ae79d544") false
  over (fun _ h=>by cases h) (by kernel_rfl) (fun _ h=>by cases h) fnNumbersSet_row_tie rfl ⟨rfl,rfl⟩ (by kernel_rfl) rfl
  (fun f fn hf hfn=>by
   obtain rfl:f=9:=Option.some.inj ((show Tryz.prog.funcNamed "loop.example/borrowcheck/laws.FnNumbersSet" = some 9 by kernel_rfl).symm.trans hf) |>.symm
   obtain rfl:fn=Tryz.f9:=(Option.some.inj (Tryz.func9.symm.trans hfn)).symm
   exact ⟨by kernel_rfl,fun j t ht=>by
    rw [Tryz.params9] at ht
    have hm:t∈[22]:=by simpa using Array.mem_of_getElem? ht
    have hall:([22].all fun u=>!Tryz.prog.wantsStandIn u)=true:=by kernel_rfl
    exact (show Tryz.prog.wantsStandIn t=false by simpa using List.all_eq_true.1 hall t hm)⟩)
  (by kernel_rfl)
#print axioms proved
end Go.Proofs.YtdcldcffnkhegaaGreatDoor.fnNumbersSet
