/- What can be used of loans at a point,by the program. -/
import Derived.Test.YtedkkphogeealaaGreatDoorPLpI00
import Derived.Test.YtedkkphogeealaaGreatDoorPFloG
namespace Go.Proofs.YtedkkphogeealaaGreatDoor
open Go.RowKit Go.Deep
set_option linter.unusedVariables false
set_option maxRecDepth 100000
set_option maxHeartbeats 4000000
theorem live_any (ts:List Int) (ns:List Nd) (C F hi:Nat) (A:Option Addr) (c:Nat) (ah bk:Nat→Nat) (L:Nat) (mb lv:Nat→Nat) (kn:Nat→Nat→Nat) (k:Nat) (d:Nd) (w:World) (h:Lend ts ns C F hi A c ah bk L mb lv kn w) (hA:AllTyped ts ns) (hd:ns[k]?=some d)
  (hTab:TabAt 0 Lib.deBruijn64tab w) (hg:0<w.heap.size) :
  Calls Tryz.prog 125 #[.pointer (some ⟨L,0,none⟩),.int .i64 k] w fun E w'=>∃ z:Nat,E=.returned (.int .u64 (z:Int))∧z<2305843009213693952∧(∀ l,z.testBit l=true↔∃ v,v<6∧(lv k).testBit v=true∧¬ lostN ts ns k v∧(kn k v).testBit l=true)∧Below w.heap.size w w':=by
 have hkn:=(List.getElem?_eq_some_iff.mp hd).1
 have hle:=h.ln.fl.gr.le
 have hk61:k<61:=by omega
 have he:=effD_ok hA.1 (hA.2 k d hd)
 obtain ⟨e1,e2,e3,e4⟩:=h.ln.fl.effCell hd
 have hF:=h.ln.flCell
 have hLl:=h.ln.ltW
 have ki0:(0:Int)≤(k:Int):=by omega
 have ki1:(k:Int)<61:=by omega
 have ht:=he.tlt
 have hs:=he.slt
 have hlvk:=h.lvIn.lt k
 have hu64:(effD ts d).s|||(effD ts d).t<64:=Nat.or_lt_two_pow (n:=6) hs ht
 have hor:=bits_or_u64_nat (effD ts d).s (effD ts d).t (by omega) (by omega)
 have hlost:∀ v,v<64→(((effD ts d).s|||(effD ts d).t).testBit v=true↔lostN ts ns k v):=fun v hv=>by rw [Nat.or_comm];exact lost_bit hd he hv
 have HLN:=Lib.hid h
 have HTAB:=Lib.hid hTab
 have HLOST:=Lib.hid hlost
 have hnew:=heap_alloc_new w (.cells #[.int .u64 ((effD ts d).r:Int),.int .u64 ((effD ts d).t:Int),.int .u64 ((effD ts d).c:Int),.int .u64 ((effD ts d).s:Int)] 102)
 have HE1:Hid ((w.alloc (.cells #[.int .u64 ((effD ts d).r:Int),.int .u64 ((effD ts d).t:Int),.int .u64 ((effD ts d).c:Int),.int .u64 ((effD ts d).s:Int)] 102)).cell? ⟨w.heap.size,1,none⟩=some (.int .u64 ((effD ts d).t:Int))):=(cB hnew 1).trans rfl
 have HE3:Hid ((w.alloc (.cells #[.int .u64 ((effD ts d).r:Int),.int .u64 ((effD ts d).t:Int),.int .u64 ((effD ts d).c:Int),.int .u64 ((effD ts d).s:Int)] 102)).cell? ⟨w.heap.size,3,none⟩=some (.int .u64 ((effD ts d).s:Int))):=(cB hnew 3).trans rfl
 have HB0:=Lib.hid ((Below.refl w.heap.size w).alloc (Nat.le_refl _) (.cells #[.int .u64 ((effD ts d).r:Int),.int .u64 ((effD ts d).t:Int),.int .u64 ((effD ts d).c:Int),.int .u64 ((effD ts d).s:Int)] 102))
 have HEL:Hid (w.heap.size<(w.alloc (.cells #[.int .u64 ((effD ts d).r:Int),.int .u64 ((effD ts d).t:Int),.int .u64 ((effD ts d).c:Int),.int .u64 ((effD ts d).s:Int)] 102)).heap.size):=Lib.hid (by simp)
 obtain ⟨lvk,hlv⟩:∃ lvk,lvk=lv k:=⟨_,rfl⟩
 have HLV:Hid (some (Value.int .u64 (lv k:Int))=some (.int .u64 (lvk:Int))):=by rw [hlv];exact Lib.hid rfl
 have HLVK:=Lib.hid hlv
 rw [← hlv] at hlvk
 clear h hTab hlost hA hd he hnew hlv
 generalize (effD ts d).s|||(effD ts d).t=U at *
 generalize (effD ts d).r=er at *
 generalize (effD ts d).t=et at *
 generalize (effD ts d).c=ec at *
 generalize (effD ts d).s=es at *
 obtain ⟨zz,hzz,hzl,hzb⟩:=bits_andNot_u64 lvk U (by omega) (by omega)
 have hz64:zz<64:=sub_lt64' hlvk hzl hzb
 have HOR:=Lib.hid hor
 have HAN:=Lib.hid hzz
 have HZB:=Lib.hid hzb
 clear hor hzz hzb
 go_enter Tryz.func125,Tryz.ntmps125
 go_upto_region 3 with fail
 generalize w.alloc (.cells #[.int .u64 (er:Int),.int .u64 (et:Int),.int .u64 (ec:Int),.int .u64 (es:Int)] 102)=w1 at *
 have HW0:Hid (w.heap.size≤w1.heap.size):=HB0.out.size
 clear e1 e2 e3 e4 hF
 refine wp_region_held_drew (S:=fun w'=>Below w1.heap.size w1 w') (by kernel_rfl) (Below.refl _ _).drew (fun hHeld=>?_)
 generalize w1.drew=wd at *
 refine tkd (i:=0) (v:=.pointer (some ⟨L,0,none⟩)) rfl hHeld ?_
 try simp only [Act.put,sA,sB,sC]
 refine tkd (i:=1) (v:=.int .i64 (k:Int)) rfl hHeld ?_
 try simp only [Act.put,sA,sB,sC]
 refine tkd (i:=2) (v:=.pointer (some ⟨L,0,none⟩)) rfl hHeld ?_
 try simp only [Act.put,sA,sB,sC]
 refine tkd (i:=3) (v:=.pointer (some ⟨L,70,none⟩)) rfl hHeld ?_
 try simp only [Act.put,sA,sB,sC]
 refine tkd (i:=4) (v:=.pointer (some ⟨L,70+k,none⟩)) rfl hHeld ?_
 try simp only [Act.put,sA,sB,sC]
 refine tk (i:=5) (v:=.int .u64 (lvk:Int)) rfl (Or.inl ⟨by rfl,fun w9 hSw=>by have h9:=((HLN.out.keep (HB0.out.trans (hSw.mono (by have:=HW0.out;omega)))).ln.lvCell hk61).trans HLV.out;go_simp⟩) hHeld ?_
 try simp only [Act.put,sA,sB,sC]
 refine tkd (i:=6) (v:=.pointer (some ⟨w.heap.size,3,none⟩)) rfl hHeld ?_
 try simp only [Act.put,sA,sB,sC]
 refine tk (i:=7) (v:=.int .u64 (es:Int)) rfl (Or.inl ⟨by rfl,fun w9 hSw=>by have h9:=(hSw.cell (p:=⟨w.heap.size,3,none⟩) HEL.out).trans HE3.out;go_simp⟩) hHeld ?_
 try simp only [Act.put,sA,sB,sC]
 refine tkd (i:=8) (v:=.pointer (some ⟨w.heap.size,1,none⟩)) rfl hHeld ?_
 try simp only [Act.put,sA,sB,sC]
 refine tk (i:=9) (v:=.int .u64 (et:Int)) rfl (Or.inl ⟨by rfl,fun w9 hSw=>by have h9:=(hSw.cell (p:=⟨w.heap.size,1,none⟩) HEL.out).trans HE1.out;go_simp⟩) hHeld ?_
 try simp only [Act.put,sA,sB,sC]
 refine tk (i:=10) (v:=.int .u64 (U:Int)) rfl (Or.inl ⟨by rfl,fun w9 hSw=>by have h9:=HOR.out;go_simp;(try rw [h9])⟩) hHeld ?_
 try simp only [Act.put,sA,sB,sC]
 refine tk (i:=11) (v:=.int .u64 (zz:Int)) rfl (Or.inl ⟨by rfl,fun w9 hSw=>by have h9:=HAN.out;go_simp;(try rw [h9])⟩) hHeld ?_
 try simp only [Act.put,sA,sB,sC]
 refine tkd (i:=14) (v:=.int .i64 0) rfl hHeld ?_
 try simp only [Act.put,sA,sB,sC]
 refine wpAnyH_ready (rs:=[12]) (by kernel_rfl) (by simp) ?_
 refine AllReadyH.cons (o:=⟨_,_,_,_,_,_⟩) rfl (fun K hK=>?_) AllReadyH.nil
 go_simp
 refine (setList_any zz (by omega) _ (tab_below HTAB.out hg (HB0.out.trans (hHeld.mono (by have:=HW0.out;omega)))) (by have:=hHeld.size;have:=HW0.out;omega)).mono ?_
 rintro E w5 ⟨v,rfl,hrow,hb5⟩
 have hrow:=hrow.mono (B':=w1.heap.size) hHeld.size
 obtain ⟨Ar,cr,hvs⟩:=hrow.slice
 subst hvs
 obtain ⟨bl,hbl⟩:∃ bl,bl=bitsOf zz:=⟨_,rfl⟩
 have hll:(intsOf zz).length=bl.length:=by rw [hbl];simp [intsOf]
 have hlen64:=intsOf_length zz
 have HROW:Hid (RowI w5 w1.heap.size (.slice Ar bl.length cr) (intsOf zz)):=by rw [← hll];exact hrow
 have HBL:=Lib.hid hbl
 have HLI:Hid (intsOf zz=bl.map (fun (k:Nat)=>(k:Int))):=by rw [hbl];rfl
 rw [hll] at hlen64 ⊢
 refine hK.out _ _ (hHeld.trans (hb5.mono hHeld.size)) (fun hHeld=>?_)
 clear hK K hrow hb5 hbl hll
 refine tk (i:=13) (v:=.int .i64 (bl.length:Int)) rfl (Or.inl ⟨by rfl,fun w9 hSw=>by go_simp⟩) hHeld ?_
 try simp only [Act.put,sA,sB,sC]
 refine wpAnyH_done (by kernel_rfl) ?_ _
 have HB5:=Lib.hid hHeld
 clear hHeld
 go_wp2_with fail
 go_loopw [6,32] (fun p i wr=>∃ (j y:Nat),p=.int .u64 (y:Int)∧i=.int .i64 j∧j≤bl.length∧y<2305843009213693952∧Hid (∀ l,y.testBit l=true↔∃ i v,i<j∧bl[i]?=some v∧(kn k v).testBit l=true)∧Hid (RowI wr w1.heap.size (.slice Ar bl.length cr) (intsOf zz))∧Hid (Below w1.heap.size w1 wr)) (fun _ i _=>bl.length-(intOf i).toNat)
 case atStart=>exact ⟨0,0,rfl,rfl,Nat.zero_le _,by decide,fun l=>by simp,HROW,HB5⟩
 case round =>
  clear HROW HB5
  obtain ⟨j,y,rfl,rfl,hj,hy,HY,HROW,HB⟩:=hrel
  by_cases hjl:j<bl.length
  ·obtain ⟨b,hb⟩:∃ b,bl[j]?=some b:=⟨bl[j],List.getElem?_eq_getElem hjl⟩
   have hbm:b∈bitsOf zz:=by rw [← HBL.out];exact List.mem_of_getElem? hb
   have hb6:b<6:=by
    have h9:=((mem_bitsOf _ _).mp hbm).2
    rcases Nat.lt_or_ge b 6 with h8 | h8
    ·exact h8
    ·rw [Nat.testBit_lt_two_pow (Nat.lt_of_lt_of_le hz64 (Nat.pow_le_pow_right (by decide) h8:2 ^ 6≤2 ^ b))] at h9
     cases h9
   obtain ⟨b0,u,hb0,-,hbb,hxx,hc⟩:=(RowI.intsV HROW.out).elem (k:=j) (by rw [HLI.out];simpa using hjl)
   subst hb0
   have hub:u=(b:Int):=by
    rw [HLI.out,List.getElem?_map,hb] at hxx
    simpa using hxx.symm
   subst hub
   have HLr:=HLN.out.keep (HB0.out.trans (HB.out.mono HW0.out))
   have hkc:=HLr.cell hk61 (v:=b) (by omega)
   have bi0:(0:Int)≤(b:Int):=by omega
   have bi1:(b:Int)<6:=by omega
   have ji0:(0:Int)≤(j:Int):=by omega
   have ji1:(j:Int)<(bl.length:Int):=by omega
   have hk9:=HLN.out.lt k b
   have hor:=bits_or_u64_nat y (kn k b) (by omega) (by omega)
   have HZ:Hid (∀ l,(y|||kn k b).testBit l=true↔∃ i v,i<j+1∧bl[i]?=some v∧(kn k v).testBit l=true):=by
    intro l
    rw [Nat.testBit_or,Bool.or_eq_true,HY.out l]
    constructor
    ·rintro (⟨i,v,h1,h2,h3⟩ | h1)
     ·exact ⟨i,v,by omega,h2,h3⟩
     ·exact ⟨j,b,by omega,hb,h1⟩
    ·rintro ⟨i,v,h1,h2,h3⟩
     by_cases hij:i=j
     ·subst hij
      rw [hb] at h2
      injection h2 with h2
      subst h2
      exact .inr h3
     ·exact .inl ⟨i,v,by omega,h2,h3⟩
   have hzlt:=or_lt61 hy hk9
   generalize kn k b=kb at *
   clear hb hbm hxx HLr HY
   go_wp2_with (simp only [hor])
   refine ⟨⟨j+1,y|||kb,rfl,by simp,by omega,hzlt,HZ,HROW,HB⟩,?_⟩
   simp only [intOf]
   omega
  ·have jd:decide (j<bl.length)=false:=decide_eq_false hjl
   have hall:∀ l,y.testBit l=true↔∃ v,v<6∧(lv k).testBit v=true∧¬ lostN ts ns k v∧(kn k v).testBit l=true:=by
    intro l
    rw [HY.out l]
    constructor
    ·rintro ⟨i,v,h1,h2,h3⟩
     have hm:v∈bitsOf zz:=by rw [← HBL.out];exact List.mem_of_getElem? h2
     have hm2:=(mem_bitsOf _ _).mp hm
     have hv6:v<6:=by
      rcases Nat.lt_or_ge v 6 with h8 | h8
      ·exact h8
      ·rw [Nat.testBit_lt_two_pow (Nat.lt_of_lt_of_le hz64 (Nat.pow_le_pow_right (by decide) h8:2 ^ 6≤2 ^ v))] at hm2
       cases hm2.2
     have h4:=hm2.2
     rw [HZB.out v (by omega),Bool.and_eq_true,Bool.not_eq_true'] at h4
     exact ⟨v,hv6,by rw [← HLVK.out];exact h4.1,fun h5=>by rw [(HLOST.out v (by omega)).mpr h5] at h4;exact absurd h4.2 (by simp),h3⟩
    ·rintro ⟨v,h1,h2,h3,h4⟩
     have hm:v∈bl:=by
      rw [HBL.out,mem_bitsOf,HZB.out v (by omega),HLVK.out,h2,Bool.true_and,Bool.not_eq_true']
      refine ⟨by omega,?_⟩
      cases h9:U.testBit v
      ·rfl
      ·exact absurd ((HLOST.out v (by omega)).mp h9) h3
     obtain ⟨i,hi,him⟩:=List.mem_iff_getElem.mp hm
     exact ⟨i,v,by omega,by rw [List.getElem?_eq_getElem hi,him],h4⟩
   have HALL:=Lib.hid hall
   have HBF:=Lib.hid (HB0.out.trans (HB.out.mono HW0.out))
   clear hall HY HROW HB hjl hj
   go_wp2_with fail
   go_ret
   exact ⟨y,rfl,hy,HALL.out,HBF.out⟩
end Go.Proofs.YtedkkphogeealaaGreatDoor
