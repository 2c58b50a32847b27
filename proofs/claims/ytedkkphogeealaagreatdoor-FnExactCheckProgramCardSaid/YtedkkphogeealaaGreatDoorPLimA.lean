/- A row of seven sets,loaded. -/
import Derived.Test.YtedkkphogeealaaGreatDoorPLplG
import Derived.Test.YtedkkphogeealaaGreatDoorPLhas
import Derived.Test.YtedkkphogeealaaGreatDoorPBits
import Derived.Test.YtedkkphogeealaaGreatDoorPMem
import Derived.Test.YtedkkphogeealaaGreatDoorPDwA
import Derived.Deep.RegionHeld3
import Derived.Test.YtedkkphogeealaaGreatDoorPPerG
import Derived.Deep.DeepCutAuto
import Derived.Test.YtedkkphogeealaaGreatDoorPLjG
import Derived.Laws.StructEq
namespace Go.Proofs.YtedkkphogeealaaGreatDoor
open Go.RowKit Go.Deep
set_option linter.unusedVariables false
set_option maxRecDepth 100000
set_option maxHeartbeats 8000000
theorem load_lent {W:World} {g:Nat} {cs:Array Value} (h:W.heap[g]?=some (.cells cs 94 (0,0))) (hz:cs.size=7):(loadVar 94 ⟨g,0,none⟩).run Tryz.prog W=.ok (.agg cs) W :=
 run_loadVar_row _ _ _ _ cs (0,0) _ h Tryz.underlying94 rfl (by rw [hz];kernel_rfl)
theorem lost_bit {ts:List Int} {ns:List Nd} {k:Nat} {d:Nd} (hd:ns[k]?=some d) (he:EfOk ts d (effD ts d)) {v:Nat} (hv:v<64):((effD ts d).t|||(effD ts d).s).testBit v=true↔lostN ts ns k v:=by
 rw [Nat.testBit_or,Bool.or_eq_true,he.takes v hv,he.sets v hv]
 unfold lostN
 rw [usesN_at hd,setsN_at hd]
theorem sub_lt61 {x z:Nat} {p:Nat→Bool} (hx:x<2305843009213693952) (hzl:z<18446744073709551616) (h:∀ k,k<64→z.testBit k=(x.testBit k && p k)):z<2305843009213693952:=by
 refine Nat.lt_pow_two_of_testBit (n:=61) z fun i hi=>?_
 by_cases h6:i<64
 ·rw [h i h6,Nat.testBit_lt_two_pow (Nat.lt_of_lt_of_le hx (Nat.pow_le_pow_right (by decide) hi:2 ^ 61≤2 ^ i))]
  rfl
 ·exact Nat.testBit_lt_two_pow (Nat.lt_of_lt_of_le (by omega:z<2 ^ 64) (Nat.pow_le_pow_right (by decide) (by omega)))
theorem big_bit {z l:Nat} (hz:z<2305843009213693952) (h:z.testBit l=true):l<61:=by
 rcases Nat.lt_or_ge l 61 with h1 | h1
 ·exact h1
 ·rw [Nat.testBit_lt_two_pow (Nat.lt_of_lt_of_le hz (Nat.pow_le_pow_right (by decide) h1:2 ^ 61≤2 ^ l))] at h
  cases h
theorem placedBehind_any (ts:List Int) (ns:List Nd) (q C F hi:Nat) (A:Option Addr) (c:Nat) (ah bk:Nat→Nat) (L:Nat) (mb lv:Nat→Nat) (k:Nat) (x:Nat) (d:Nd) (w:World) (h:LndIn ts ns C F hi A c ah bk L ns.length mb lv w) (hD:PtsOk q ns) (hA:AllTyped ts ns) (hd:ns[k]?=some d) (hTab:TabAt 0 Lib.deBruijn64tab w) (hg:0<w.heap.size) (hx:x<2305843009213693952) :
  Calls Tryz.prog 118 #[.pointer (some ⟨L,0,none⟩),.int .i64 k,.int .u64 x] w fun E w'=>∃ z:Nat,E=.returned (.int .u64 (z:Int))∧z<2305843009213693952∧(∀ l,z.testBit l=true↔(isLoan ns k=true∧l=k)∨(x.testBit l=true∧∀ v,v<6→lostN ts ns k v→¬ isFrom ns v l=true))∧Below w.heap.size w w':=by
 have hkn:=(List.getElem?_eq_some_iff.mp hd).1
 have hle:=h.fl.gr.le
 have hk61:k<61:=by omega
 have he:=effD_ok hA.1 (hA.2 k d hd)
 obtain ⟨e1,e2,e3,e4⟩:=h.fl.effCell hd
 have hF:=h.flCell
 have hLl:=h.ltW
 have hFl:F<w.heap.size:=by have:=h.lt;omega
 have ki0:(0:Int)≤(k:Int):=by omega
 have ki1:(k:Int)<61:=by omega
 have ht:=he.tlt
 have hs:=he.slt
 have hu64:(effD ts d).t|||(effD ts d).s<64:=Nat.or_lt_two_pow (n:=6) ht hs
 have hor:=bits_or_u64_nat (effD ts d).t (effD ts d).s (by omega) (by omega)
 have hlost:=fun v (hv:v<64)=>lost_bit hd he hv
 have HW:=Lib.hid h
 have HTAB:=Lib.hid hTab
 have HLOST:=Lib.hid hlost
 have HD:=Lib.hid hD
 have HA:=Lib.hid hA
 have HDK:=Lib.hid hd
 clear h hTab hlost hD hA hd he
 generalize (effD ts d).t|||(effD ts d).s=U at *
 generalize (effD ts d).r=er at *
 generalize (effD ts d).t=et at *
 generalize (effD ts d).c=ec at *
 generalize (effD ts d).s=es at *
 go_enter Tryz.func118,Tryz.ntmps118
 go_wp2_with (simp only [hor])
 refine (setList_any U (by omega) _ ?hT ?hG).mono ?_
 case hT=>exact tab_below HTAB.out hg (by first | exact (Below.refl _ _).alloc (Nat.le_refl _) _ | exact Below.refl _ _)
 case hG=>simp only [World.alloc,Array.size_push];omega
 rintro E w1 ⟨v,rfl,hrow,hb1⟩
 have hbw:Below w.heap.size w w1:=((Below.refl w.heap.size w).alloc (Nat.le_refl _) _).trans (hb1.mono (by simp))
 have hrow2:=hrow.mono (B':=w.heap.size) (by simp)
 obtain ⟨Ar,cr,hvs⟩:=hrow2.slice
 subst hvs
 obtain ⟨bl,hbl⟩:∃ bl,bl=bitsOf U:=⟨_,rfl⟩
 have hll:(intsOf U).length=bl.length:=by rw [hbl];simp [intsOf]
 have hlen64:=intsOf_length U
 have HROW:Hid (RowI w1 w.heap.size (.slice Ar bl.length cr) (intsOf U)):=by rw [← hll];exact hrow2
 rw [hll] at hlen64
 have HBL:=Lib.hid hbl
 have HLI:Hid (intsOf U=bl.map (fun (k:Nat)=>(k:Int))):=by rw [hbl];rfl
 rw [hll]
 clear hrow hrow2 hb1 hll hbl e1 e2 e3 e4 hF
 go_wp2_with fail
 go_loopw [8,28] (fun p i wr=>∃ (j y:Nat),p=.int .u64 (y:Int)∧i=.int .i64 j∧j≤bl.length∧y<2305843009213693952∧Hid (∀ l,y.testBit l=true↔x.testBit l=true∧∀ i v,i<j→bl[i]?=some v→¬ isFrom ns v l=true)∧Hid (RowI wr w.heap.size (.slice Ar bl.length cr) (intsOf U))∧Hid (Below w.heap.size w wr)) (fun _ i _=>bl.length-(intOf i).toNat)
 case atStart=>exact ⟨0,x,rfl,rfl,Nat.zero_le _,hx,fun l=>⟨fun h=>⟨h,fun i v hi=>absurd hi (Nat.not_lt_zero _)⟩,fun h=>h.1⟩,HROW,hbw⟩
 case round =>
  clear HROW hbw
  obtain ⟨j,y,rfl,rfl,hj,hy,HY,HROW,HB⟩:=hrel
  by_cases hjl:j<bl.length
  ·obtain ⟨b,hb⟩:∃ b,bl[j]?=some b:=⟨bl[j],List.getElem?_eq_getElem hjl⟩
   have hbm:b∈bitsOf U:=by rw [← HBL.out];exact List.mem_of_getElem? hb
   have hb6:b<6:=by
    have h9:=((mem_bitsOf _ _).mp hbm).2
    rcases Nat.lt_or_ge b 6 with h8 | h8
    ·exact h8
    ·rw [Nat.testBit_lt_two_pow (Nat.lt_of_lt_of_le hu64 (Nat.pow_le_pow_right (by decide) h8:2 ^ 6≤2 ^ b))] at h9
     cases h9
   obtain ⟨b0,u,hb0,-,hbb,hxx,hc⟩:=(RowI.intsV HROW.out).elem (k:=j) (by rw [HLI.out];simpa using hjl)
   subst hb0
   have hub:u=(b:Int):=by
    rw [HLI.out,List.getElem?_map,hb] at hxx
    simpa using hxx.symm
   subst hub
   have hfc:=(HW.out.keep HB.out).fromCell hb6
   have bi0:(0:Int)≤(b:Int):=by omega
   have bi1:(b:Int)<6:=by omega
   have ji0:(0:Int)≤(j:Int):=by omega
   have ji1:(j:Int)<(bl.length:Int):=by omega
   have hf61:=bitsK_61 (isFrom ns b) hle
   obtain ⟨z,hz,hzl,hzb⟩:=bits_andNot_u64 y (bitsK (isFrom ns b) ns.length) (by omega) (by omega)
   have hz61:=sub_lt61 (p:=fun k=>!(bitsK (isFrom ns b) ns.length).testBit k) hy hzl hzb
   have HZ:Hid (∀ l,z.testBit l=true↔x.testBit l=true∧∀ i v,i<j+1→bl[i]?=some v→¬ isFrom ns v l=true):=by
    intro l
    by_cases hl:l<61
    ·have hbit:=bitsK_bit (isFrom ns b) l ns.length
     have hfr:(bitsK (isFrom ns b) ns.length).testBit l=isFrom ns b l:=by
      rw [hbit]
      by_cases hln:l<ns.length
      ·rw [decide_eq_true hln,Bool.true_and]
      ·rw [decide_eq_false hln,Bool.false_and]
       unfold isFrom
       rw [List.getElem?_eq_none (by omega)]
     rw [hzb l (by omega),hfr,Bool.and_eq_true,HY.out l,Bool.not_eq_true']
     constructor
     ·rintro ⟨⟨h1,h2⟩,h3⟩
      refine ⟨h1,fun i v hi hv=>?_⟩
      by_cases hij:i=j
      ·subst hij
       rw [hb] at hv
       injection hv with hv
       subst hv
       rw [h3];simp
      ·exact h2 i v (by omega) hv
     ·rintro ⟨h1,h2⟩
      refine ⟨⟨h1,fun i v hi hv=>h2 i v (by omega) hv⟩,?_⟩
      have:=h2 j b (by omega) hb
      simpa using this
    ·constructor
     ·intro h9
      exact absurd (big_bit hz61 h9) hl
     ·rintro ⟨h9,_⟩
      exact absurd (big_bit hx h9) hl
   generalize bitsK (isFrom ns b) ns.length=fb at *
   clear hb hbm hxx hzb HY
   go_wp2_with (simp only [hz])
   refine ⟨⟨j+1,z,rfl,by simp,by omega,hz61,HZ,HROW,HB⟩,?_⟩
   simp only [intOf]
   omega
  ·have hjn:j=bl.length:=by omega
   have hmk:=(HW.out.keep HB.out).madeCell
   have hm61:=bitsK_61 (isLoan ns) hle
   have hbit:(bitsK (isLoan ns) ns.length).testBit k=isLoan ns k:=by rw [bitsK_bit,decide_eq_true hkn,Bool.true_and]
   have hall:∀ l,y.testBit l=true↔x.testBit l=true∧∀ v,v<6→lostN ts ns k v→¬ isFrom ns v l=true:=by
    intro l
    rw [HY.out l]
    refine and_congr Iff.rfl ⟨fun h9 v hv hl=>?_,fun h9 i v hi hv=>?_⟩
    ·have hm:v∈bl:=by
      rw [HBL.out,mem_bitsOf]
      exact ⟨by omega,(HLOST.out v (by omega)).mpr hl⟩
     obtain ⟨i,hi,him⟩:=List.mem_iff_getElem.mp hm
     exact h9 i v (by omega) (by rw [List.getElem?_eq_getElem hi,him])
    ·have hm:v∈bitsOf U:=by rw [← HBL.out];exact List.mem_of_getElem? hv
     have hm2:=(mem_bitsOf _ _).mp hm
     have hv6:v<6:=by
      rcases Nat.lt_or_ge v 6 with h8 | h8
      ·exact h8
      ·rw [Nat.testBit_lt_two_pow (Nat.lt_of_lt_of_le hu64 (Nat.pow_le_pow_right (by decide) h8:2 ^ 6≤2 ^ v))] at hm2
       cases hm2.2
     exact h9 v hv6 ((HLOST.out v hm2.1).mp hm2.2)
   have HALL:=Lib.hid hall
   have hhas:=fun W=>bitHas_any (bitsK (isLoan ns) ns.length) k (by omega) (by omega) W
   rw [hbit] at hhas
   generalize bitsK (isLoan ns) ns.length=mk at *
   have hwith:=fun W=>with_any y k (by omega) (by omega) W
   have jd:decide (j<bl.length)=false:=decide_eq_false hjl
   clear hall HY HROW hbit hjn hjl hj
   cases hil:isLoan ns k
   ·rw [hil] at hhas
    have HIL:=Lib.hid hil
    clear hwith hil
    go_wp2_with fail
    refine (hhas _).mono ?_
    rintro E w3 ⟨rfl,rfl⟩
    go_wp2_with fail
    go_ret
    exact ⟨y,rfl,hy,fun l=>by rw [HALL.out l,HIL.out];simp,HB.out⟩
   ·rw [hil] at hhas
    have HIL:=Lib.hid hil
    clear hil
    go_wp2_with fail
    refine (hhas _).mono ?_
    rintro E w3 ⟨rfl,rfl⟩
    go_wp2_with fail
    refine (hwith _).mono ?_
    rintro E w4 ⟨rfl,hb4⟩
    have HB4:=Lib.hid (HB.out.trans (hb4.mono HB.out.size))
    go_wp2_with fail
    go_ret
    have hp2:2 ^ k<2 ^ 61:=Nat.pow_lt_pow_right (by decide) hk61
    refine ⟨y|||2 ^ k,rfl,or_lt61 hy hp2,fun l=>?_,HB4.out⟩
    rw [Nat.testBit_or,Bool.or_eq_true,Nat.testBit_two_pow,HALL.out l,HIL.out,decide_eq_true_eq]
    constructor
    ·rintro (h9 | h9)
     ·exact .inr h9
     ·exact .inl ⟨rfl,h9.symm⟩
    ·rintro (h9 | h9)
     ·exact .inr h9.2.symm
     ·exact .inl h9
def lentZ (ts:List Int) (d:Nd) (k:Nat) (x:Nat→Nat) (v:Nat):Nat :=
 if (d.op=4∨d.op=5)∧d.x=(v:Int) then x d.y.toNat|||2 ^ k
 else if d.op=3∧d.x=(v:Int) then x d.y.toNat
 else if ((effD ts d).t|||(effD ts d).s).testBit v then 0 else x v
theorem lentZ_lt {ts:List Int} {d:Nd} {k:Nat} {x:Nat→Nat} (hk:k<61) (hx:∀ v,x v<2305843009213693952) (v:Nat):lentZ ts d k x v<2305843009213693952:=by
 unfold lentZ
 have hp2:2 ^ k<2 ^ 61:=Nat.pow_lt_pow_right (by decide) hk
 split
 ·exact or_lt61 (hx _) hp2
 ·split
  ·exact hx _
  ·split
   ·decide
   ·exact hx _
theorem lentZ_iff {ts:List Int} {ns:List Nd} {k:Nat} {d:Nd} (hd:ns[k]?=some d) (he:EfOk ts d (effD ts d)) {x:Nat→Nat} {v:Nat} (hv:v<6) (l:Nat) :
  (lentZ ts d k x v).testBit l=true↔Beh (genL ns) (handL ts ns) k (bitR x) v l:=by
 have hxy:=he.xy
 have hlost:=lost_bit hd he (v:=v) (by omega)
 have hset:(d.op=3∨d.op=4∨d.op=5)→d.x=(v:Int)→lostN ts ns k v:=fun h1 h2=>.inr ((setsN_at hd v).mpr (by unfold setI;rw [if_pos (by omega)];exact h2))
 have hgen:genL ns k v l↔(d.op=4∨d.op=5)∧l=k∧d.x=(v:Int):=by
  constructor
  ·rintro ⟨d',h1,h2,h3,h4,_⟩
   rw [hd] at h1
   cases h1
   exact ⟨h2,h3,h4.resolve_left (by omega)⟩
  ·rintro ⟨h2,h3,h4⟩
   exact ⟨d,hd,h2,h3,.inr h4,by omega⟩
 unfold Beh
 rw [hgen]
 unfold lentZ
 by_cases h1:(d.op=4∨d.op=5)∧d.x=(v:Int)
 ·rw [if_pos h1,Nat.testBit_or,Bool.or_eq_true,Nat.testBit_two_pow,decide_eq_true_eq]
  constructor
  ·rintro (h9 | h9)
   ·exact .inr ⟨d.y.toNat,by omega,h9,.inl ⟨hv,by omega,.inl ⟨d,hd,.inr h1.1,h1.2,by omega⟩⟩⟩
   ·exact .inl ⟨h1.1,h9.symm,h1.2⟩
  ·rintro (h9 | ⟨u,hu,h8,h9⟩)
   ·exact .inr h9.2.1.symm
   ·rcases h9 with ⟨_,hu6,⟨d',h2,h3,h4,h5⟩ | ⟨_,h7⟩⟩ | ⟨h7,_⟩
    ·rw [hd] at h2
     cases h2
     have:d.y.toNat=u:=by omega
     rw [this]
     exact .inl h8
    ·exact absurd (hset (.inr h1.1) h1.2) h7
    ·omega
 ·rw [if_neg h1]
  by_cases h2:d.op=3∧d.x=(v:Int)
  ·rw [if_pos h2]
   constructor
   ·intro h9
    exact .inr ⟨d.y.toNat,by omega,h9,.inl ⟨hv,by omega,.inl ⟨d,hd,.inl h2.1,h2.2,by omega⟩⟩⟩
   ·rintro (h9 | ⟨u,hu,h8,h9⟩)
    ·exact absurd ⟨h9.1,h9.2.2⟩ h1
    ·rcases h9 with ⟨_,hu6,⟨d',h3,h4,h5,h6⟩ | ⟨_,h7⟩⟩ | ⟨h7,_⟩
     ·rw [hd] at h3
      cases h3
      have:d.y.toNat=u:=by omega
      rw [this]
      exact h8
     ·exact absurd (hset (.inl h2.1) h2.2) h7
     ·omega
  ·rw [if_neg h2]
   by_cases h3:((effD ts d).t|||(effD ts d).s).testBit v=true
   ·rw [if_pos h3,Nat.zero_testBit]
    simp only [Bool.false_eq_true,false_iff]
    rintro (h9 | ⟨u,hu,h8,h9⟩)
    ·exact h1 ⟨h9.1,h9.2.2⟩
    ·rcases h9 with ⟨_,hu6,⟨d',h4,h5,h6,h7⟩ | ⟨_,h7⟩⟩ | ⟨h7,_⟩
     ·rw [hd] at h4
      cases h4
      rcases h5 with h5 | h5
      ·exact h2 ⟨h5,h6⟩
      ·exact h1 ⟨h5,h6⟩
     ·exact h7 (hlost.mp h3)
     ·omega
   ·rw [if_neg h3]
    constructor
    ·intro h9
     exact .inr ⟨v,by omega,h9,.inl ⟨hv,hv,.inr ⟨rfl,fun h=>h3 (hlost.mpr h)⟩⟩⟩
    ·rintro (h9 | ⟨u,hu,h8,h9⟩)
     ·exact absurd ⟨h9.1,h9.2.2⟩ h1
     ·rcases h9 with ⟨_,hu6,⟨d',h4,h5,h6,h7⟩ | ⟨rfl,_⟩⟩ | ⟨h7,_⟩
      ·rw [hd] at h4
       cases h4
       rcases h5 with h5 | h5
       ·exact absurd ⟨h5,h6⟩ h2
       ·exact absurd ⟨h5,h6⟩ h1
      ·exact h8
      ·omega
def lessZ (bl:List Nat) (j:Nat) (x:Nat→Nat) (v:Nat):Nat:=if v∈bl.take j then 0 else x v
theorem lessZ_next {bl:List Nat} {j b:Nat} (hb:bl[j]?=some b) (x:Nat→Nat) (v:Nat):setAt (lessZ bl j x) b 0 v=lessZ bl (j+1) x v:=by
 have e:bl.take (j+1)=bl.take j++[b]:=by rw [List.take_add_one,hb];rfl
 unfold setAt lessZ
 rw [e]
 simp only [List.mem_append,List.mem_cons,List.not_mem_nil,or_false]
 by_cases h:v=b
 ·rw [if_pos h,if_pos (.inr h)]
 ·rw [if_neg h]
  by_cases h2:v∈bl.take j
  ·rw [if_pos h2,if_pos (.inl h2)]
  ·rw [if_neg h2,if_neg (by rintro (h9 | h9);exact h2 h9;exact h h9)]
theorem loansBehind_any (ts:List Int) (ns:List Nd) (q C F hi:Nat) (A:Option Addr) (c:Nat) (ah bk:Nat→Nat) (L:Nat) (mb lv:Nat→Nat) (k:Nat) (x:Nat→Nat) (d:Nd) (w:World) (h:LndIn ts ns C F hi A c ah bk L ns.length mb lv w) (hD:PtsOk q ns) (hA:AllTyped ts ns) (hd:ns[k]?=some d) (hTab:TabAt 0 Lib.deBruijn64tab w) (hg:0<w.heap.size) (hx:∀ v,x v<2305843009213693952) :
  Calls Tryz.prog 117 #[.pointer (some ⟨L,0,none⟩),.int .i64 k,.agg (perC x).toArray] w fun E w'=>E=.returned (.agg (perC (lentZ ts d k x)).toArray)∧Below w.heap.size w w':=by
 have hkn:=(List.getElem?_eq_some_iff.mp hd).1
 have hle:=h.fl.gr.le
 have hk61:k<61:=by omega
 have he:=effD_ok hA.1 (hA.2 k d hd)
 have hLl:=h.ltW
 have hlt:=h.lt
 have ki0:(0:Int)≤(k:Int):=by omega
 have ki1:(k:Int)<61:=by omega
 have HL:=Lib.hid h
 have HTAB:=Lib.hid hTab
 have HDK:=Lib.hid hd
 have HE:=Lib.hid he
 have hb0:=((Below.refl w.heap.size w).alloc (Nat.le_refl _) (.cells (perC x).toArray 91)).alloc (by simp) (.cells #[.int .u64 0,.int .u64 0,.int .u64 0,.int .u64 0,.int .u64 0,.int .u64 0] 91)
 have hp0:=PerAt.new w x
 have hp1:PerAt ((w.alloc (.cells (perC x).toArray 91)).alloc (.cells #[.int .u64 0,.int .u64 0,.int .u64 0,.int .u64 0,.int .u64 0,.int .u64 0] 91)) w.heap.size x:=hp0.keep ((Below.refl _ _).alloc (Nat.le_refl _) _)
 have hp6:PerAt ((w.alloc (.cells (perC x).toArray 91)).alloc (.cells #[.int .u64 0,.int .u64 0,.int .u64 0,.int .u64 0,.int .u64 0,.int .u64 0] 91)) (w.alloc (.cells (perC x).toArray 91)).heap.size (fun _=>0):=PerAt.new (w.alloc (.cells (perC x).toArray 91)) (fun _=>0)
 have hz1:(w.alloc (.cells (perC x).toArray 91)).heap.size=w.heap.size+1:=by simp
 have hz2:((w.alloc (.cells (perC x).toArray 91)).alloc (.cells #[.int .u64 0,.int .u64 0,.int .u64 0,.int .u64 0,.int .u64 0,.int .u64 0] 91)).heap.size=w.heap.size+2:=by simp
 rw [hz1] at hp6
 clear h hTab hD hA hd he hp0 hz1
 go_enter Tryz.func117,Tryz.ntmps117
 go_upto_region 1 with fail
 generalize (w.alloc (.cells (perC x).toArray 91)).alloc (.cells #[.int .u64 0,.int .u64 0,.int .u64 0,.int .u64 0,.int .u64 0,.int .u64 0] 91)=w1 at *
 have HL1:=Lib.hid (HL.out.keep hb0)
 have HP0:=Lib.hid hp1
 have HP6:=Lib.hid hp6
 have HB0:=Lib.hid hb0
 have HZ2:=Lib.hid hz2
 clear hb0 hp1 hp6 hz2 HL
 go_cut [7,8] (fun s7 s8 wx=>∃ (b7 b8:Nat) (p0 p1:Int),s7=.pointer (some ⟨b7,0,none⟩)∧s8=.pointer (some ⟨b8,0,none⟩)∧wx.heap[b7]?=some (.cells ([.int .i64 d.op,.int .i64 d.x,.int .i64 d.y,.int .i64 d.n,.int .i64 p0,.int .i64 p1,.int .i64 d.next.length]:List Value).toArray 130 (0,0))∧wx.heap[b8]?=some (.cells ([.int .u64 ((effD ts d).r:Int),.int .u64 ((effD ts d).t:Int),.int .u64 ((effD ts d).c:Int),.int .u64 ((effD ts d).s:Int)]:List Value).toArray 102 (0,0))∧w1.heap.size≤b7∧w1.heap.size≤b8∧Below w1.heap.size w1 wx)
 case first =>
  obtain ⟨p0,p1,hrN⟩:=HL1.out.fl.gr.ndRange HDK.out
  have hrN:Hid (∀ w9,Below w1.heap.size w1 w9→w9.rangeAt C (k*7) [.int .i64 d.op,.int .i64 d.x,.int .i64 d.y,.int .i64 d.n,.int .i64 p0,.int .i64 p1,.int .i64 d.next.length]):=fun w9 h9=>hrN w9 (h9.block C (by have:=HL1.out.ltW;omega))
  have hrE:Hid (∀ w9,Below w1.heap.size w1 w9→w9.rangeAt F (2+k*4) [.int .u64 ((effD ts d).r:Int),.int .u64 ((effD ts d).t:Int),.int .u64 ((effD ts d).c:Int),.int .u64 ((effD ts d).s:Int)]):=fun w9 h9=>(HL1.out.keep h9).fl.effRange HDK.out
  refine wp_region_held_drew (S:=fun w9=>Below w1.heap.size w1 w9) (by kernel_rfl) (Below.refl _ _).drew (fun hHeld=>?_)
  generalize hwd:w1.drew=wd at *
  clear hwd
  refine tkd (i:=0) (v:=.pointer (some ⟨L,0,none⟩)) rfl hHeld ?_
  try simp only [Act.put,sA,sB,sC]
  refine tkd (i:=1) (v:=.pointer (some ⟨L,0,none⟩)) rfl hHeld ?_
  try simp only [Act.put,sA,sB,sC]
  refine tkd (i:=2) (v:=.pointer (some ⟨L,0,none⟩)) rfl hHeld ?_
  try simp only [Act.put,sA,sB,sC]
  refine tk (i:=3) (v:=.pointer (some ⟨F,0,none⟩)) rfl (Or.inl ⟨by rfl,fun w9 hSw=>by have h9:=(HL1.out.keep hSw).flCell;go_simp⟩) hHeld ?_
  try simp only [Act.put,sA,sB,sC]
  refine tkd (i:=4) (v:=.pointer (some ⟨F,0,none⟩)) rfl hHeld ?_
  try simp only [Act.put,sA,sB,sC]
  refine tkd (i:=5) (v:=.pointer (some ⟨F,0,none⟩)) rfl hHeld ?_
  try simp only [Act.put,sA,sB,sC]
  refine tk (i:=6) (v:=.pointer (some ⟨C,0,none⟩)) rfl (Or.inl ⟨by rfl,fun w9 hSw=>by have h9:=(HL1.out.keep hSw).fl.grCell;go_simp⟩) hHeld ?_
  try simp only [Act.put,sA,sB,sC]
  refine tkd (i:=7) (v:=.int .i64 (k:Int)) rfl hHeld ?_
  try simp only [Act.put,sA,sB,sC]
  refine tkd (i:=8) (v:=.pointer (some ⟨C,0,none⟩)) rfl hHeld ?_
  try simp only [Act.put,sA,sB,sC]
  refine tkd (i:=9) (v:=.pointer (some ⟨C,0,none⟩)) rfl hHeld ?_
  try simp only [Act.put,sA,sB,sC]
  refine tkd (i:=10) (v:=.pointer (some ⟨C,k*7,none⟩)) rfl hHeld ?_
  try simp only [Act.put,sA,sB,sC]
  refine tk (i:=11) (v:=.agg ([.int .i64 d.op,.int .i64 d.x,.int .i64 d.y,.int .i64 d.n,.int .i64 p0,.int .i64 p1,.int .i64 d.next.length]:List Value).toArray) rfl (yieldsIf_load_mid (by rfl) _ _ rfl C (k*7) rfl [.int .i64 d.op,.int .i64 d.x,.int .i64 d.y,.int .i64 d.n,.int .i64 p0,.int .i64 p1,.int .i64 d.next.length] _ (fun w9 hSw=>hrN.out w9 hSw) Tryz.underlying130 rfl (by kernel_rfl)) hHeld ?_
  try simp only [Act.put,sA,sB,sC]
  refine tkd (i:=12) (v:=.pointer (some ⟨L,0,none⟩)) rfl hHeld ?_
  try simp only [Act.put,sA,sB,sC]
  refine tkd (i:=13) (v:=.pointer (some ⟨L,0,none⟩)) rfl hHeld ?_
  try simp only [Act.put,sA,sB,sC]
  refine tkd (i:=14) (v:=.pointer (some ⟨L,0,none⟩)) rfl hHeld ?_
  try simp only [Act.put,sA,sB,sC]
  refine tk (i:=15) (v:=.pointer (some ⟨F,0,none⟩)) rfl (Or.inl ⟨by rfl,fun w9 hSw=>by have h9:=(HL1.out.keep hSw).flCell;go_simp⟩) hHeld ?_
  try simp only [Act.put,sA,sB,sC]
  refine tkd (i:=16) (v:=.int .i64 (k:Int)) rfl hHeld ?_
  try simp only [Act.put,sA,sB,sC]
  refine tkd (i:=17) (v:=.pointer (some ⟨F,0,none⟩)) rfl hHeld ?_
  try simp only [Act.put,sA,sB,sC]
  refine tkd (i:=18) (v:=.pointer (some ⟨F,2,none⟩)) rfl hHeld ?_
  try simp only [Act.put,sA,sB,sC]
  refine tkd (i:=19) (v:=.pointer (some ⟨F,2+k*4,none⟩)) rfl hHeld ?_
  try simp only [Act.put,sA,sB,sC]
  refine tk (i:=20) (v:=.agg ([.int .u64 ((effD ts d).r:Int),.int .u64 ((effD ts d).t:Int),.int .u64 ((effD ts d).c:Int),.int .u64 ((effD ts d).s:Int)]:List Value).toArray) rfl (yieldsIf_load_mid (by rfl) _ _ rfl F (2+k*4) rfl [.int .u64 ((effD ts d).r:Int),.int .u64 ((effD ts d).t:Int),.int .u64 ((effD ts d).c:Int),.int .u64 ((effD ts d).s:Int)] _ (fun w9 hSw=>hrE.out w9 hSw) Tryz.underlying102 rfl (by kernel_rfl)) hHeld ?_
  try simp only [Act.put,sA,sB,sC]
  refine wpAnyH_ready (rs:=[21,22]) (by kernel_rfl) (by simp) ?_
  refine AllReadyH.cons (o:=⟨_,_,_,_,_,_⟩) rfl (fun K hK=>?_) ?_
  ·skip
   go_simp
   have f7:=heap_alloc_new wd (.cells #[.int .i64 0,.int .i64 0,.int .i64 0,.int .i64 0,.int .i64 0,.int .i64 0,.int .i64 0] 130)
   have hs1:=hHeld.size
   refine hK.out _ _ (hHeld.alloc hHeld.size (.cells #[.int .i64 0,.int .i64 0,.int .i64 0,.int .i64 0,.int .i64 0,.int .i64 0,.int .i64 0] 130)) (fun hHeld=>?_)
   have hz1:(wd.alloc (.cells #[.int .i64 0,.int .i64 0,.int .i64 0,.int .i64 0,.int .i64 0,.int .i64 0,.int .i64 0] 130)).heap.size=wd.heap.size+1:=by simp
   generalize wd.alloc (.cells #[.int .i64 0,.int .i64 0,.int .i64 0,.int .i64 0,.int .i64 0,.int .i64 0,.int .i64 0] 130)=wa1 at *
   replace hz1:=Lib.hid hz1
   replace f7:=Lib.hid f7
   clear hK K
   have hzA:=hz1
   have hsA:=Lib.hid hs1
   refine wpAnyH_ready (rs:=[22]) (by kernel_rfl) (by simp) ?_
   refine AllReadyH.cons (o:=⟨_,_,_,_,_,_⟩) rfl (fun K hK=>?_) AllReadyH.nil
   go_simp
   have f8:=heap_alloc_new wa1 (.cells #[.int .u64 0,.int .u64 0,.int .u64 0,.int .u64 0] 102)
   replace f7:=((Below.refl wa1.heap.size wa1).alloc (Nat.le_refl _) (.cells #[.int .u64 0,.int .u64 0,.int .u64 0,.int .u64 0] 102)).block _ (heap_lt f7.out) |>.trans f7.out
   have hs2:=hHeld.size
   refine hK.out _ _ (hHeld.alloc hHeld.size (.cells #[.int .u64 0,.int .u64 0,.int .u64 0,.int .u64 0] 102)) (fun hHeld=>?_)
   have hz2:(wa1.alloc (.cells #[.int .u64 0,.int .u64 0,.int .u64 0,.int .u64 0] 102)).heap.size=wa1.heap.size+1:=by simp
   generalize wa1.alloc (.cells #[.int .u64 0,.int .u64 0,.int .u64 0,.int .u64 0] 102)=wa2 at *
   replace hz2:=Lib.hid hz2
   replace f7:=Lib.hid f7
   replace f8:=Lib.hid f8
   clear hK K
   refine wpAnyH_ready (rs:=[23]) (by kernel_rfl) (by simp) ?_
   refine AllReadyH.cons (o:=⟨_,_,_,_,_,_⟩) rfl (fun K hK=>?_) AllReadyH.nil
   rw [if_pos (by rfl)]
   refine wp_store_mid _ _ _ rfl (wd.heap.size) 0 ([.int .i64 d.op,.int .i64 d.x,.int .i64 d.y,.int .i64 d.n,.int .i64 p0,.int .i64 p1,.int .i64 d.next.length]:List Value).toArray rfl rfl (row_there f7.out rfl) (by kernel_rfl) (by simp [Value.oneCell']) ?_
   simp only [Act.put]
   have g7:=row_set ([.int .i64 d.op,.int .i64 d.x,.int .i64 d.y,.int .i64 d.n,.int .i64 p0,.int .i64 p1,.int .i64 d.next.length]:List Value) f7.out rfl
   have g8:=(heap_setCells_ne wa2 (wd.heap.size) (wa1.heap.size) 0 ([.int .i64 d.op,.int .i64 d.x,.int .i64 d.y,.int .i64 d.n,.int .i64 p0,.int .i64 p1,.int .i64 d.next.length]:List Value) (by have:=hzA.out;have:=hsA.out;omega) (heap_lt f8.out)).trans f8.out
   refine hK.out _ _ (below_setCells hHeld (by have:=hzA.out;have:=hsA.out;omega) hHeld.size) (fun hHeld=>?_)
   change Below w1.heap.size w1 (wa2.setCells (wd.heap.size) 0 [.int .i64 d.op,.int .i64 d.x,.int .i64 d.y,.int .i64 d.n,.int .i64 p0,.int .i64 p1,.int .i64 d.next.length]) at hHeld
   skip
   generalize hgen:wa2.setCells (wd.heap.size) 0 _=wa3 at *
   clear hK K hgen
   replace f7:=Lib.hid g7
   clear g7
   replace f8:=Lib.hid g8
   clear g8
   refine wpAnyH_ready (rs:=[24]) (by kernel_rfl) (by simp) ?_
   refine AllReadyH.cons (o:=⟨_,_,_,_,_,_⟩) rfl (fun K hK=>?_) AllReadyH.nil
   rw [if_pos (by rfl)]
   refine wp_store_mid _ _ _ rfl (wa1.heap.size) 0 ([.int .u64 ((effD ts d).r:Int),.int .u64 ((effD ts d).t:Int),.int .u64 ((effD ts d).c:Int),.int .u64 ((effD ts d).s:Int)]:List Value).toArray rfl rfl (row_there f8.out rfl) (by kernel_rfl) (by simp [Value.oneCell']) ?_
   simp only [Act.put]
   have g8:=row_set ([.int .u64 ((effD ts d).r:Int),.int .u64 ((effD ts d).t:Int),.int .u64 ((effD ts d).c:Int),.int .u64 ((effD ts d).s:Int)]:List Value) f8.out rfl
   have g7:=(heap_setCells_ne wa3 (wa1.heap.size) (wd.heap.size) 0 ([.int .u64 ((effD ts d).r:Int),.int .u64 ((effD ts d).t:Int),.int .u64 ((effD ts d).c:Int),.int .u64 ((effD ts d).s:Int)]:List Value) (by have:=hzA.out;have:=hsA.out;omega) (heap_lt f7.out)).trans f7.out
   refine hK.out _ _ (below_setCells hHeld (by have:=hzA.out;have:=hsA.out;omega) hHeld.size) (fun hHeld=>?_)
   change Below w1.heap.size w1 (wa3.setCells (wa1.heap.size) 0 [.int .u64 ((effD ts d).r:Int),.int .u64 ((effD ts d).t:Int),.int .u64 ((effD ts d).c:Int),.int .u64 ((effD ts d).s:Int)]) at hHeld
   skip
   generalize hgen:wa3.setCells (wa1.heap.size) 0 _=wa4 at *
   clear hK K hgen
   replace f7:=Lib.hid g7
   clear g7
   replace f8:=Lib.hid g8
   clear g8
   refine wpAnyH_done (by kernel_rfl) ?_ _
   go_wp2_with fail
   go_meet
   exact ⟨wd.heap.size,wa1.heap.size,p0,p1,rfl,rfl,f7.out,f8.out,by have:=hzA.out;have:=hsA.out;omega,by have:=hzA.out;have:=hsA.out;omega,hHeld⟩
  refine AllReadyH.cons (o:=⟨_,_,_,_,_,_⟩) rfl (fun K hK=>?_) AllReadyH.nil
  go_simp
  have f8:=heap_alloc_new wd (.cells #[.int .u64 0,.int .u64 0,.int .u64 0,.int .u64 0] 102)
  have hs1:=hHeld.size
  refine hK.out _ _ (hHeld.alloc hHeld.size (.cells #[.int .u64 0,.int .u64 0,.int .u64 0,.int .u64 0] 102)) (fun hHeld=>?_)
  have hz1:(wd.alloc (.cells #[.int .u64 0,.int .u64 0,.int .u64 0,.int .u64 0] 102)).heap.size=wd.heap.size+1:=by simp
  generalize wd.alloc (.cells #[.int .u64 0,.int .u64 0,.int .u64 0,.int .u64 0] 102)=wa1 at *
  replace hz1:=Lib.hid hz1
  replace f8:=Lib.hid f8
  clear hK K
  have hzA:=hz1
  have hsA:=Lib.hid hs1
  refine wpAnyH_ready (rs:=[21]) (by kernel_rfl) (by simp) ?_
  refine AllReadyH.cons (o:=⟨_,_,_,_,_,_⟩) rfl (fun K hK=>?_) AllReadyH.nil
  go_simp
  have f7:=heap_alloc_new wa1 (.cells #[.int .i64 0,.int .i64 0,.int .i64 0,.int .i64 0,.int .i64 0,.int .i64 0,.int .i64 0] 130)
  replace f8:=((Below.refl wa1.heap.size wa1).alloc (Nat.le_refl _) (.cells #[.int .i64 0,.int .i64 0,.int .i64 0,.int .i64 0,.int .i64 0,.int .i64 0,.int .i64 0] 130)).block _ (heap_lt f8.out) |>.trans f8.out
  have hs2:=hHeld.size
  refine hK.out _ _ (hHeld.alloc hHeld.size (.cells #[.int .i64 0,.int .i64 0,.int .i64 0,.int .i64 0,.int .i64 0,.int .i64 0,.int .i64 0] 130)) (fun hHeld=>?_)
  have hz2:(wa1.alloc (.cells #[.int .i64 0,.int .i64 0,.int .i64 0,.int .i64 0,.int .i64 0,.int .i64 0,.int .i64 0] 130)).heap.size=wa1.heap.size+1:=by simp
  generalize wa1.alloc (.cells #[.int .i64 0,.int .i64 0,.int .i64 0,.int .i64 0,.int .i64 0,.int .i64 0,.int .i64 0] 130)=wa2 at *
  replace hz2:=Lib.hid hz2
  replace f8:=Lib.hid f8
  replace f7:=Lib.hid f7
  clear hK K
  refine wpAnyH_ready (rs:=[23]) (by kernel_rfl) (by simp) ?_
  refine AllReadyH.cons (o:=⟨_,_,_,_,_,_⟩) rfl (fun K hK=>?_) AllReadyH.nil
  rw [if_pos (by rfl)]
  refine wp_store_mid _ _ _ rfl (wa1.heap.size) 0 ([.int .i64 d.op,.int .i64 d.x,.int .i64 d.y,.int .i64 d.n,.int .i64 p0,.int .i64 p1,.int .i64 d.next.length]:List Value).toArray rfl rfl (row_there f7.out rfl) (by kernel_rfl) (by simp [Value.oneCell']) ?_
  simp only [Act.put]
  have g7:=row_set ([.int .i64 d.op,.int .i64 d.x,.int .i64 d.y,.int .i64 d.n,.int .i64 p0,.int .i64 p1,.int .i64 d.next.length]:List Value) f7.out rfl
  have g8:=(heap_setCells_ne wa2 (wa1.heap.size) (wd.heap.size) 0 ([.int .i64 d.op,.int .i64 d.x,.int .i64 d.y,.int .i64 d.n,.int .i64 p0,.int .i64 p1,.int .i64 d.next.length]:List Value) (by have:=hzA.out;have:=hsA.out;omega) (heap_lt f8.out)).trans f8.out
  refine hK.out _ _ (below_setCells hHeld (by have:=hzA.out;have:=hsA.out;omega) hHeld.size) (fun hHeld=>?_)
  change Below w1.heap.size w1 (wa2.setCells (wa1.heap.size) 0 [.int .i64 d.op,.int .i64 d.x,.int .i64 d.y,.int .i64 d.n,.int .i64 p0,.int .i64 p1,.int .i64 d.next.length]) at hHeld
  skip
  generalize hgen:wa2.setCells (wa1.heap.size) 0 _=wa3 at *
  clear hK K hgen
  replace f8:=Lib.hid g8
  clear g8
  replace f7:=Lib.hid g7
  clear g7
  refine wpAnyH_ready (rs:=[24]) (by kernel_rfl) (by simp) ?_
  refine AllReadyH.cons (o:=⟨_,_,_,_,_,_⟩) rfl (fun K hK=>?_) AllReadyH.nil
  rw [if_pos (by rfl)]
  refine wp_store_mid _ _ _ rfl (wd.heap.size) 0 ([.int .u64 ((effD ts d).r:Int),.int .u64 ((effD ts d).t:Int),.int .u64 ((effD ts d).c:Int),.int .u64 ((effD ts d).s:Int)]:List Value).toArray rfl rfl (row_there f8.out rfl) (by kernel_rfl) (by simp [Value.oneCell']) ?_
  simp only [Act.put]
  have g8:=row_set ([.int .u64 ((effD ts d).r:Int),.int .u64 ((effD ts d).t:Int),.int .u64 ((effD ts d).c:Int),.int .u64 ((effD ts d).s:Int)]:List Value) f8.out rfl
  have g7:=(heap_setCells_ne wa3 (wd.heap.size) (wa1.heap.size) 0 ([.int .u64 ((effD ts d).r:Int),.int .u64 ((effD ts d).t:Int),.int .u64 ((effD ts d).c:Int),.int .u64 ((effD ts d).s:Int)]:List Value) (by have:=hzA.out;have:=hsA.out;omega) (heap_lt f7.out)).trans f7.out
  refine hK.out _ _ (below_setCells hHeld (by have:=hzA.out;have:=hsA.out;omega) hHeld.size) (fun hHeld=>?_)
  change Below w1.heap.size w1 (wa3.setCells (wd.heap.size) 0 [.int .u64 ((effD ts d).r:Int),.int .u64 ((effD ts d).t:Int),.int .u64 ((effD ts d).c:Int),.int .u64 ((effD ts d).s:Int)]) at hHeld
  skip
  generalize hgen:wa3.setCells (wd.heap.size) 0 _=wa4 at *
  clear hK K hgen
  replace f8:=Lib.hid g8
  clear g8
  replace f7:=Lib.hid g7
  clear g7
  refine wpAnyH_done (by kernel_rfl) ?_ _
  go_wp2_with fail
  go_meet
  exact ⟨wa1.heap.size,wd.heap.size,p0,p1,rfl,rfl,f7.out,f8.out,by have:=hzA.out;have:=hsA.out;omega,by have:=hzA.out;have:=hsA.out;omega,hHeld⟩
 case rest =>
  obtain ⟨b7,b8,p0,p1,rfl,rfl,h7,h8,hn7,hn8,hbc⟩:=hcut
  have hcs:=hbc.size
  have hP0:=HP0.out.keep hbc
  have hP6:=HP6.out.keep hbc
  have hbW:=HB0.out.trans (hbc.mono (by have:=HZ2.out;omega))
  have hxy:=HE.out.xy
  have htl:=HE.out.tlt
  have hsl:=HE.out.slt
  obtain ⟨X,hX⟩:∃ X:Nat,d.x=(X:Int):=⟨d.x.toNat,by omega⟩
  obtain ⟨Y,hY⟩:∃ Y:Nat,d.y=(Y:Int):=⟨d.y.toNat,by omega⟩
  have hX6:X<6:=by omega
  have hY6:Y<6:=by omega
  have hu64:(effD ts d).t|||(effD ts d).s<64:=Nat.or_lt_two_pow (n:=6) htl hsl
  have hor:=bits_or_u64_nat (effD ts d).t (effD ts d).s (by omega) (by omega)
  obtain ⟨U,hU⟩:∃ U,U=(effD ts d).t|||(effD ts d).s:=⟨_,rfl⟩
  rw [← hU] at hor hu64
  obtain ⟨op,hop⟩:∃ op,op=d.op:=⟨_,rfl⟩
  have c70:wc.cell? ⟨b7,0,none⟩=some (.int .i64 op):=by rw [hop];exact (cB h7 0).trans rfl
  have c71:wc.cell? ⟨b7,1,none⟩=some (.int .i64 (X:Int)):=by rw [← hX];exact (cB h7 1).trans rfl
  have c72:wc.cell? ⟨b7,2,none⟩=some (.int .i64 (Y:Int)):=by rw [← hY];exact (cB h7 2).trans rfl
  have c81:wc.cell? ⟨b8,1,none⟩=some (.int .u64 ((effD ts d).t:Int)):=(cB h8 1).trans rfl
  have c83:wc.cell? ⟨b8,3,none⟩=some (.int .u64 ((effD ts d).s:Int)):=(cB h8 3).trans rfl
  have hl7:=heap_lt h7
  have hl8:=heap_lt h8
  have hZ:∀ v,v<6→lentZ ts d k x v=if (op=4∨op=5)∧v=X then x Y|||2 ^ k else if op=3∧v=X then x Y else if U.testBit v then 0 else x v:=by
   intro v hv
   unfold lentZ
   rw [hop,hU,hX,hY,Int.toNat_natCast]
   have e:(X:Int)=(v:Int)↔v=X:=⟨fun h=>by omega,fun h=>by omega⟩
   simp only [e]
  have HZ:=Lib.hid hZ
  have HOR:=Lib.hid hor
  have HRB:=Lib.hid hP0.range
  have HP0c:=Lib.hid hP0
  have HP6c:=Lib.hid hP6
  have hiV:Hid ((Tryz.prog.info? 91).map (·.size)=some 6):=by exact (show (Tryz.prog.info? 91).map (·.size)=some 6 from by kernel_rfl)
  have hth:Hid ((wc.alloc (.cells #[.int .u64 0,.int .u64 0,.int .u64 0,.int .u64 0,.int .u64 0,.int .u64 0] 91)).there wc.heap.size 0 6):=(PerAt.new wc (fun _=>0)).there
  have hp9:Hid (PerAt ((wc.alloc (.cells #[.int .u64 0,.int .u64 0,.int .u64 0,.int .u64 0,.int .u64 0,.int .u64 0] 91)).setCells wc.heap.size 0 (perC x)) wc.heap.size x):=PerAt.all (PerAt.new wc (fun _=>0)) x
  have hba:=below_setCells (b:=wc.heap.size) (o:=0) (vs:=perC x) ((Below.refl wc.heap.size wc).alloc (Nat.le_refl _) (.cells #[.int .u64 0,.int .u64 0,.int .u64 0,.int .u64 0,.int .u64 0,.int .u64 0] 91)) (Nat.le_refl _) (by simp)
  have HA7:=Lib.hid ((hba.cell (p:=⟨b7,0,none⟩) hl7).trans c70)
  have HA71:=Lib.hid ((hba.cell (p:=⟨b7,1,none⟩) hl7).trans c71)
  have HA72:=Lib.hid ((hba.cell (p:=⟨b7,2,none⟩) hl7).trans c72)
  have HA81:=Lib.hid ((hba.cell (p:=⟨b8,1,none⟩) hl8).trans c81)
  have HA83:=Lib.hid ((hba.cell (p:=⟨b8,3,none⟩) hl8).trans c83)
  have HP0d:=Lib.hid (hP0.same (hba.block _ hP0.lt))
  have HP6d:=Lib.hid (hP6.same (hba.block _ hP6.lt))
  have HBd:=Lib.hid (hbW.trans (hba.mono (by have:=HZ2.out;omega)))
  have hcl:=hP6.lt
  have HN9:Hid (b7<wc.heap.size∧w.heap.size+1<wc.heap.size):=⟨hl7,hcl⟩
  have hzd:wc.heap.size<((wc.alloc (.cells #[.int .u64 0,.int .u64 0,.int .u64 0,.int .u64 0,.int .u64 0,.int .u64 0] 91)).setCells wc.heap.size 0 (perC x)).heap.size:=by rw [size_setCells];simp
  have HZD:=Lib.hid hzd
  clear hba h7 h8 hor hop hX hY hZ hP0 hP6 hcs hbc hbW hU c70 c71 c72 c81 c83 hzd
  go_upto_region 3 with (first
   | ((with_reducible show wpList _ _ _ _ _ _);refine wpList_load_mid rfl 91 _ rfl w.heap.size 0 rfl (perC x) _ HRB.out Tryz.underlying91 rfl hiV.out ?_)
   | ((with_reducible show wpList _ _ _ _ _ _);refine wpList_store_mid rfl 91 _ _ rfl wc.heap.size 0 (perC x).toArray rfl rfl hth.out hiV.out (perC_one _) ?_))
  generalize (wc.alloc (.cells #[.int .u64 0,.int .u64 0,.int .u64 0,.int .u64 0,.int .u64 0,.int .u64 0] 91)).setCells wc.heap.size 0 _=wD at *
  generalize wc.heap.size=B9 at *
  have c81:=HA81.out
  have c83:=HA83.out
  have hor:=HOR.out
  have c70:=HA7.out
  have c71:=HA71.out
  have c72:=HA72.out
  have hcells:Hid (wD.cell? ⟨b7,0,none⟩=some (.int .i64 op)∧wD.cell? ⟨b7,1,none⟩=some (.int .i64 (X:Int))∧wD.cell? ⟨b7,2,none⟩=some (.int .i64 (Y:Int))):=⟨c70,c71,c72⟩
  clear c70 c71 c72 HA7 HA71 HA72 HA81 HA83 HRB HP0c HP6c hth hiV HL1 HP0 HP6 HB0 HZ2 HOR
  go_wp2_with (simp only [hor])
  refine (setList_any U (by omega) wD (tab_below HTAB.out hg HBd.out) (by have:=HBd.out.size;omega)).mono ?_
  rintro E w5 ⟨v,rfl,hrow,hb5⟩
  obtain ⟨Ar,cr,hvs⟩:=hrow.slice
  subst hvs
  obtain ⟨bl,hbl⟩:∃ bl,bl=bitsOf U:=⟨_,rfl⟩
  have hll:(intsOf U).length=bl.length:=by rw [hbl];simp [intsOf]
  have hlen64:=intsOf_length U
  have HROW:Hid (RowI w5 wD.heap.size (.slice Ar bl.length cr) (intsOf U)):=by rw [← hll];exact hrow
  rw [hll] at hlen64
  have HBL:=Lib.hid hbl
  have HLI:Hid (intsOf U=bl.map (fun (k:Nat)=>(k:Int))):=by rw [hbl];rfl
  have hl7:b7<wD.heap.size:=by have:=HN9.out;have:=HZD.out;omega
  have HC5:Hid (w5.cell? ⟨b7,0,none⟩=some (.int .i64 op)∧w5.cell? ⟨b7,1,none⟩=some (.int .i64 (X:Int))∧w5.cell? ⟨b7,2,none⟩=some (.int .i64 (Y:Int))):=⟨(hb5.cell (p:=⟨b7,0,none⟩) hl7).trans hcells.out.1,(hb5.cell (p:=⟨b7,1,none⟩) hl7).trans hcells.out.2.1,(hb5.cell (p:=⟨b7,2,none⟩) hl7).trans hcells.out.2.2⟩
  have HP95:Hid (PerAt w5 B9 (lessZ bl 0 x)):=(hp9.out.keep hb5).congr fun v hv=>by unfold lessZ;simp
  have HP05:=Lib.hid (HP0d.out.keep hb5)
  have HP65:=Lib.hid (HP6d.out.keep hb5)
  have HB5:=Lib.hid (HBd.out.trans (hb5.mono HBd.out.size))
  rw [hll]
  clear hrow hb5 hll hbl c81 c83 hor hcells hp9 HP0d HP6d HBd hl7
  go_wp2_with fail
  go_loopw [41] (fun i wr=>∃ j:Nat,i=.int .i64 j∧j≤bl.length∧Hid (PerAt wr B9 (lessZ bl j x))∧Hid (PerAt wr w.heap.size x)∧Hid (PerAt wr (w.heap.size+1) (fun _=>0))∧Hid (RowI wr wD.heap.size (.slice Ar bl.length cr) (intsOf U))∧Hid (wr.cell? ⟨b7,0,none⟩=some (.int .i64 op)∧wr.cell? ⟨b7,1,none⟩=some (.int .i64 (X:Int))∧wr.cell? ⟨b7,2,none⟩=some (.int .i64 (Y:Int)))∧Hid (Below w.heap.size w wr)) (fun i _=>bl.length-(intOf i).toNat)
  case atStart=>exact ⟨0,rfl,Nat.zero_le _,HP95,HP05,HP65,HROW,HC5,HB5⟩
  case round =>
   clear HP95 HP05 HP65 HROW HC5 HB5
   obtain ⟨j,rfl,hj,HP9,HP0,HP6,HROW,HC,HB⟩:=hrel
   by_cases hjl:j<bl.length
   ·obtain ⟨b,hb⟩:∃ b,bl[j]?=some b:=⟨bl[j],List.getElem?_eq_getElem hjl⟩
    have hbm:b∈bitsOf U:=by rw [← HBL.out];exact List.mem_of_getElem? hb
    have hb6:b<6:=by
     have h9:=((mem_bitsOf _ _).mp hbm).2
     rcases Nat.lt_or_ge b 6 with h8 | h8
     ·exact h8
     ·rw [Nat.testBit_lt_two_pow (Nat.lt_of_lt_of_le hu64 (Nat.pow_le_pow_right (by decide) h8:2 ^ 6≤2 ^ b))] at h9
      cases h9
    obtain ⟨b0,u,hb0,-,hbb,hxx,hc⟩:=(RowI.intsV HROW.out).elem (k:=j) (by rw [HLI.out];simpa using hjl)
    subst hb0
    have hub:u=(b:Int):=by
     rw [HLI.out,List.getElem?_map,hb] at hxx
     simpa using hxx.symm
    subst hub
    have bi0:(0:Int)≤(b:Int):=by omega
    have bi1:(b:Int)<6:=by omega
    have ji0:(0:Int)≤(j:Int):=by omega
    have ji1:(j:Int)<(bl.length:Int):=by omega
    have c9:=HP9.out.cell hb6
    have s9:=HP9.out.soft b
    have HP9':Hid (PerAt (wr.setCell ⟨B9,b,none⟩ (.int .u64 ((0:Nat):Int))) B9 (lessZ bl (j+1) x)):=(HP9.out.put (v:=0) hb6).congr fun v _=>lessZ_next hb x v
    have HP0':=Lib.hid (HP0.out.same (heap_setCell_other wr ⟨B9,b,none⟩ _ (.int .u64 ((0:Nat):Int)) (by show w.heap.size≠B9;have:=HN9.out;omega)))
    have HP6':=Lib.hid (HP6.out.same (heap_setCell_other wr ⟨B9,b,none⟩ _ (.int .u64 ((0:Nat):Int)) (by show w.heap.size+1≠B9;have:=HN9.out;omega)))
    have HROW':Hid (RowI (wr.setCell ⟨B9,b,none⟩ (.int .u64 ((0:Nat):Int))) wD.heap.size (.slice (some b0) bl.length cr) (intsOf U)):=RowI.keep HROW.out fun g hg'=>heap_setCell_other _ _ _ _ (by have:=(RowI.lt HROW.out g hg').1;have:=HZD.out;show g≠B9;omega)
    have h7o:=heap_setCell_other wr ⟨B9,b,none⟩ b7 (.int .u64 ((0:Nat):Int)) (by show b7≠B9;have:=HN9.out;omega)
    have HC':Hid ((wr.setCell ⟨B9,b,none⟩ (.int .u64 ((0:Nat):Int))).cell? ⟨b7,0,none⟩=some (.int .i64 op)∧(wr.setCell ⟨B9,b,none⟩ (.int .u64 ((0:Nat):Int))).cell? ⟨b7,1,none⟩=some (.int .i64 (X:Int))∧(wr.setCell ⟨B9,b,none⟩ (.int .u64 ((0:Nat):Int))).cell? ⟨b7,2,none⟩=some (.int .i64 (Y:Int))):=⟨(World.cell?_of_block (a:=⟨b7,0,none⟩) h7o).trans HC.out.1,(World.cell?_of_block (a:=⟨b7,1,none⟩) h7o).trans HC.out.2.1,(World.cell?_of_block (a:=⟨b7,2,none⟩) h7o).trans HC.out.2.2⟩
    have HB':=Lib.hid (below_set (o:=b) (v:=.int .u64 ((0:Nat):Int)) HB.out (by have:=HN9.out;omega:w.heap.size≤B9))
    clear hb hbm hxx HP9 HP0 HP6 HROW HC HB h7o
    go_wp2_with fail
    refine ⟨⟨j+1,by simp,by omega,HP9',HP0',HP6',HROW',HC',HB'⟩,?_⟩
    simp only [intOf]
    omega
   ·have hjn:j=bl.length:=by omega
    have jd:decide (j<bl.length)=false:=decide_eq_false hjl
    have hless:∀ v,v<6→lessZ bl j x v=if U.testBit v then 0 else x v:=by
     intro v hv
     unfold lessZ
     rw [hjn,List.take_length,HBL.out]
     have e:v∈bitsOf U↔U.testBit v=true:=by rw [mem_bitsOf];exact ⟨fun h=>h.2,fun h=>⟨by omega,h⟩⟩
     simp only [e]
    have HLESS:=Lib.hid hless
    obtain ⟨fl,hfl⟩:∃ fl,fl=lessZ bl j x:=⟨_,rfl⟩
    rw [← hfl] at HP9 HLESS
    have c70:=HC.out.1
    have c71:=HC.out.2.1
    have c72:=HC.out.2.2
    have cY:=HP0.out.cell hY6
    have xi0:(0:Int)≤(X:Int):=by omega
    have xi1:(X:Int)<6:=by omega
    have yi0:(0:Int)≤(Y:Int):=by omega
    have yi1:(Y:Int)<6:=by omega
    have HBB:=HB
    have hwl:=HB.out.size
    have hl9:=HP9.out.lt
    clear hless hfl hjn hjl hj HC HROW HP0
    by_cases h4:op=4
    ·rw [h4] at c70 HZ
     clear h4 HBB
     go_upto_region 11 with fail
     refine wp_region_held_drew (S:=fun w'=>w'.cell? ⟨b7,1,none⟩=some (.int .i64 (X:Int))∧w'.cell? ⟨b7,2,none⟩=some (.int .i64 (Y:Int))∧w'.cell? ⟨w.heap.size,Y,none⟩=some (.int .u64 (x Y:Int))∧Below B9 wr w') (by kernel_rfl) ⟨c71,c72,cY,(Below.refl _ _).drew⟩ (fun hHeld=>?_)
     replace HP9:Hid (PerAt wr.drew B9 fl):=HP9.out.same rfl
     replace HP6:Hid (PerAt wr.drew (w.heap.size+1) (fun _=>0)):=HP6.out.same rfl
     have HB7L:Hid (b7<wr.drew.heap.size∧w.heap.size<wr.drew.heap.size):=⟨by show b7<wr.heap.size;have:=HN9.out;omega,by show w.heap.size<wr.heap.size;omega⟩
     generalize hwd:wr.drew=wd at *
     clear hwd c70 c71 c72 cY
     refine tkd (i:=0) (v:=.pointer (some ⟨b7,1,none⟩)) rfl hHeld ?_
     try simp only [Act.put,sA,sB,sC]
     refine tk (i:=1) (v:=.int .i64 (X:Int)) rfl (Or.inl ⟨by rfl,fun w9 hSw=>by have h9:=hSw.1;go_simp⟩) hHeld ?_
     try simp only [Act.put,sA,sB,sC]
     refine tkd (i:=2) (v:=.pointer (some ⟨b7,2,none⟩)) rfl hHeld ?_
     try simp only [Act.put,sA,sB,sC]
     refine tk (i:=3) (v:=.int .i64 (Y:Int)) rfl (Or.inl ⟨by rfl,fun w9 hSw=>by have h9:=hSw.2.1;go_simp⟩) hHeld ?_
     try simp only [Act.put,sA,sB,sC]
     refine tkd (i:=4) (v:=.pointer (some ⟨w.heap.size,Y,none⟩)) rfl hHeld ?_
     try simp only [Act.put,sA,sB,sC]
     refine tk (i:=5) (v:=.int .u64 (x Y:Int)) rfl (Or.inl ⟨by rfl,fun w9 hSw=>by have h9:=hSw.2.2.1;go_simp⟩) hHeld ?_
     try simp only [Act.put,sA,sB,sC]
     refine tkd (i:=6) (v:=.int .i64 (k:Int)) rfl hHeld ?_
     try simp only [Act.put,sA,sB,sC]
     refine wpAnyH_ready (rs:=[7]) (by kernel_rfl) (by simp) ?_
     refine AllReadyH.cons (o:=⟨_,_,_,_,_,_⟩) rfl (fun K hK=>?_) AllReadyH.nil
     go_simp
     refine (with_any (x Y) k (by have:=hx Y;omega) (by omega) _).mono ?_
     rintro E wq ⟨rfl,hbq⟩
     refine hK.out _ _ ⟨(hbq.cell HB7L.out.1).trans hHeld.1,(hbq.cell HB7L.out.1).trans hHeld.2.1,(hbq.cell HB7L.out.2).trans hHeld.2.2.1,hHeld.2.2.2.trans (hbq.mono (by have:=HP9.out.lt;omega))⟩ (fun hHeld=>?_)
     replace HP9:=Lib.hid (HP9.out.keep hbq)
     replace HP6:=Lib.hid (HP6.out.keep hbq)
     clear hK K hbq
     refine tkd (i:=8) (v:=.pointer (some ⟨B9,X,none⟩)) rfl hHeld ?_
     try simp only [Act.put,sA,sB,sC]
     refine wpAnyH_ready (rs:=[9]) (by kernel_rfl) (by simp) ?_
     refine AllReadyH.cons (o:=⟨_,_,_,_,_,_⟩) rfl (fun K hK=>?_) AllReadyH.nil
     have cq:=HP9.out.cell hX6
     have sq:=HP9.out.soft X
     go_simp
     refine hK.out _ _ ⟨(World.cell?_of_block (heap_setCell_other _ ⟨B9,X,none⟩ _ (.int .u64 ((x Y|||2 ^ k:Nat):Int)) (by show b7≠B9;have:=HN9.out;omega))).trans hHeld.1,(World.cell?_of_block (heap_setCell_other _ ⟨B9,X,none⟩ _ (.int .u64 ((x Y|||2 ^ k:Nat):Int)) (by show b7≠B9;have:=HN9.out;omega))).trans hHeld.2.1,(World.cell?_of_block (heap_setCell_other _ ⟨B9,X,none⟩ _ (.int .u64 ((x Y|||2 ^ k:Nat):Int)) (by show w.heap.size≠B9;have:=HN9.out;omega))).trans hHeld.2.2.1,below_set hHeld.2.2.2 (Nat.le_refl _)⟩ (fun hHeld=>?_)
     replace HP9:=Lib.hid (HP9.out.put (v:=x Y|||2 ^ k) hX6)
     replace HP6:=Lib.hid (HP6.out.same (heap_setCell_other _ ⟨B9,X,none⟩ _ (.int .u64 ((x Y|||2 ^ k:Nat):Int)) (by show w.heap.size+1≠B9;have:=HN9.out;omega)))
     clear hK K cq sq
     refine wpAnyH_done (by kernel_rfl) ?_ _
     skip
     have HBB:=Lib.hid (HB.out.trans (hHeld.2.2.2.mono (by have:=HN9.out;omega)))
     clear hHeld
     have HR_:=Lib.hid HP9.out.range
     have HT_:=Lib.hid HP6.out.there
     have HO_:=Lib.hid (HP6.out.allRow (setAt fl X (x Y|||2 ^ k)))
     have HBS_:=Lib.hid (below_setCells (b:=w.heap.size+1) (o:=0) (vs:=perC (setAt fl X (x Y|||2 ^ k))) HBB.out (by omega) HBB.out.size)
     have HEQ_:Hid (perC (lentZ ts d k x)=perC (setAt fl X (x Y|||2 ^ k))):=Lib.hid (perC_congr fun v hv=>by (rw [HZ.out v hv];unfold setAt;by_cases h9:v=X <;> simp [h9,HLESS.out v hv]))
     have hiW:Hid ((Tryz.prog.info? 91).map (·.size)=some 6):=by exact (show (Tryz.prog.info? 91).map (·.size)=some 6 from by kernel_rfl)
     clear HP9 HP6 HBB
     go_wp2_with (first
      | ((with_reducible show wpList _ _ _ _ _ _);refine wpList_load_mid rfl 91 _ rfl B9 0 rfl (perC (setAt fl X (x Y|||2 ^ k))) _ HR_.out Tryz.underlying91 rfl hiW.out ?_)
      | ((with_reducible show wpList _ _ _ _ _ _);refine wpList_store_mid rfl 91 _ _ rfl (w.heap.size+1) 0 (perC (setAt fl X (x Y|||2 ^ k))).toArray rfl rfl HT_.out hiW.out (perC_one _) ?_))
     refine bodyPost_ret (v:=.agg (perC (setAt fl X (x Y|||2 ^ k))).toArray) ?_ rfl ⟨by rw [HEQ_.out],HBS_.out⟩
     exact results_cell rfl Tryz.prog _ _ (w.heap.size+1) _ rfl (load_per HO_.out rfl)
    ·have n4:(op==4)=false:=by simp [h4]
     by_cases h5:op=5
     ·rw [h5] at c70 HZ
      clear h5 n4 h4 HBB
      go_upto_region 11 with fail
      refine wp_region_held_drew (S:=fun w'=>w'.cell? ⟨b7,1,none⟩=some (.int .i64 (X:Int))∧w'.cell? ⟨b7,2,none⟩=some (.int .i64 (Y:Int))∧w'.cell? ⟨w.heap.size,Y,none⟩=some (.int .u64 (x Y:Int))∧Below B9 wr w') (by kernel_rfl) ⟨c71,c72,cY,(Below.refl _ _).drew⟩ (fun hHeld=>?_)
      replace HP9:Hid (PerAt wr.drew B9 fl):=HP9.out.same rfl
      replace HP6:Hid (PerAt wr.drew (w.heap.size+1) (fun _=>0)):=HP6.out.same rfl
      have HB7L:Hid (b7<wr.drew.heap.size∧w.heap.size<wr.drew.heap.size):=⟨by show b7<wr.heap.size;have:=HN9.out;omega,by show w.heap.size<wr.heap.size;omega⟩
      generalize hwd:wr.drew=wd at *
      clear hwd c70 c71 c72 cY
      refine tkd (i:=0) (v:=.pointer (some ⟨b7,1,none⟩)) rfl hHeld ?_
      try simp only [Act.put,sA,sB,sC]
      refine tk (i:=1) (v:=.int .i64 (X:Int)) rfl (Or.inl ⟨by rfl,fun w9 hSw=>by have h9:=hSw.1;go_simp⟩) hHeld ?_
      try simp only [Act.put,sA,sB,sC]
      refine tkd (i:=2) (v:=.pointer (some ⟨b7,2,none⟩)) rfl hHeld ?_
      try simp only [Act.put,sA,sB,sC]
      refine tk (i:=3) (v:=.int .i64 (Y:Int)) rfl (Or.inl ⟨by rfl,fun w9 hSw=>by have h9:=hSw.2.1;go_simp⟩) hHeld ?_
      try simp only [Act.put,sA,sB,sC]
      refine tkd (i:=4) (v:=.pointer (some ⟨w.heap.size,Y,none⟩)) rfl hHeld ?_
      try simp only [Act.put,sA,sB,sC]
      refine tk (i:=5) (v:=.int .u64 (x Y:Int)) rfl (Or.inl ⟨by rfl,fun w9 hSw=>by have h9:=hSw.2.2.1;go_simp⟩) hHeld ?_
      try simp only [Act.put,sA,sB,sC]
      refine tkd (i:=6) (v:=.int .i64 (k:Int)) rfl hHeld ?_
      try simp only [Act.put,sA,sB,sC]
      refine wpAnyH_ready (rs:=[7]) (by kernel_rfl) (by simp) ?_
      refine AllReadyH.cons (o:=⟨_,_,_,_,_,_⟩) rfl (fun K hK=>?_) AllReadyH.nil
      go_simp
      refine (with_any (x Y) k (by have:=hx Y;omega) (by omega) _).mono ?_
      rintro E wq ⟨rfl,hbq⟩
      refine hK.out _ _ ⟨(hbq.cell HB7L.out.1).trans hHeld.1,(hbq.cell HB7L.out.1).trans hHeld.2.1,(hbq.cell HB7L.out.2).trans hHeld.2.2.1,hHeld.2.2.2.trans (hbq.mono (by have:=HP9.out.lt;omega))⟩ (fun hHeld=>?_)
      replace HP9:=Lib.hid (HP9.out.keep hbq)
      replace HP6:=Lib.hid (HP6.out.keep hbq)
      clear hK K hbq
      refine tkd (i:=8) (v:=.pointer (some ⟨B9,X,none⟩)) rfl hHeld ?_
      try simp only [Act.put,sA,sB,sC]
      refine wpAnyH_ready (rs:=[9]) (by kernel_rfl) (by simp) ?_
      refine AllReadyH.cons (o:=⟨_,_,_,_,_,_⟩) rfl (fun K hK=>?_) AllReadyH.nil
      have cq:=HP9.out.cell hX6
      have sq:=HP9.out.soft X
      go_simp
      refine hK.out _ _ ⟨(World.cell?_of_block (heap_setCell_other _ ⟨B9,X,none⟩ _ (.int .u64 ((x Y|||2 ^ k:Nat):Int)) (by show b7≠B9;have:=HN9.out;omega))).trans hHeld.1,(World.cell?_of_block (heap_setCell_other _ ⟨B9,X,none⟩ _ (.int .u64 ((x Y|||2 ^ k:Nat):Int)) (by show b7≠B9;have:=HN9.out;omega))).trans hHeld.2.1,(World.cell?_of_block (heap_setCell_other _ ⟨B9,X,none⟩ _ (.int .u64 ((x Y|||2 ^ k:Nat):Int)) (by show w.heap.size≠B9;have:=HN9.out;omega))).trans hHeld.2.2.1,below_set hHeld.2.2.2 (Nat.le_refl _)⟩ (fun hHeld=>?_)
      replace HP9:=Lib.hid (HP9.out.put (v:=x Y|||2 ^ k) hX6)
      replace HP6:=Lib.hid (HP6.out.same (heap_setCell_other _ ⟨B9,X,none⟩ _ (.int .u64 ((x Y|||2 ^ k:Nat):Int)) (by show w.heap.size+1≠B9;have:=HN9.out;omega)))
      clear hK K cq sq
      refine wpAnyH_done (by kernel_rfl) ?_ _
      skip
      have HBB:=Lib.hid (HB.out.trans (hHeld.2.2.2.mono (by have:=HN9.out;omega)))
      clear hHeld
      have HR_:=Lib.hid HP9.out.range
      have HT_:=Lib.hid HP6.out.there
      have HO_:=Lib.hid (HP6.out.allRow (setAt fl X (x Y|||2 ^ k)))
      have HBS_:=Lib.hid (below_setCells (b:=w.heap.size+1) (o:=0) (vs:=perC (setAt fl X (x Y|||2 ^ k))) HBB.out (by omega) HBB.out.size)
      have HEQ_:Hid (perC (lentZ ts d k x)=perC (setAt fl X (x Y|||2 ^ k))):=Lib.hid (perC_congr fun v hv=>by (rw [HZ.out v hv];unfold setAt;by_cases h9:v=X <;> simp [h9,HLESS.out v hv]))
      have hiW:Hid ((Tryz.prog.info? 91).map (·.size)=some 6):=by exact (show (Tryz.prog.info? 91).map (·.size)=some 6 from by kernel_rfl)
      clear HP9 HP6 HBB
      go_wp2_with (first
       | ((with_reducible show wpList _ _ _ _ _ _);refine wpList_load_mid rfl 91 _ rfl B9 0 rfl (perC (setAt fl X (x Y|||2 ^ k))) _ HR_.out Tryz.underlying91 rfl hiW.out ?_)
       | ((with_reducible show wpList _ _ _ _ _ _);refine wpList_store_mid rfl 91 _ _ rfl (w.heap.size+1) 0 (perC (setAt fl X (x Y|||2 ^ k))).toArray rfl rfl HT_.out hiW.out (perC_one _) ?_))
      refine bodyPost_ret (v:=.agg (perC (setAt fl X (x Y|||2 ^ k))).toArray) ?_ rfl ⟨by rw [HEQ_.out],HBS_.out⟩
      exact results_cell rfl Tryz.prog _ _ (w.heap.size+1) _ rfl (load_per HO_.out rfl)
     ·have n5:(op==5)=false:=by simp [h5]
      by_cases h3:op=3
      ·rw [h3] at c70 HZ
       clear h3 n5 h5 n4 h4 HBB
       go_upto_region 13 with fail
       refine wp_region_held_drew (S:=fun w'=>w'.cell? ⟨b7,1,none⟩=some (.int .i64 (X:Int))∧w'.cell? ⟨b7,2,none⟩=some (.int .i64 (Y:Int))∧w'.cell? ⟨w.heap.size,Y,none⟩=some (.int .u64 (x Y:Int))∧Below B9 wr w') (by kernel_rfl) ⟨c71,c72,cY,(Below.refl _ _).drew⟩ (fun hHeld=>?_)
       replace HP9:Hid (PerAt wr.drew B9 fl):=HP9.out.same rfl
       replace HP6:Hid (PerAt wr.drew (w.heap.size+1) (fun _=>0)):=HP6.out.same rfl
       have HB7L:Hid (b7<wr.drew.heap.size∧w.heap.size<wr.drew.heap.size):=⟨by show b7<wr.heap.size;have:=HN9.out;omega,by show w.heap.size<wr.heap.size;omega⟩
       generalize hwd:wr.drew=wd at *
       clear hwd c70 c71 c72 cY
       refine tkd (i:=0) (v:=.pointer (some ⟨b7,1,none⟩)) rfl hHeld ?_
       try simp only [Act.put,sA,sB,sC]
       refine tk (i:=1) (v:=.int .i64 (X:Int)) rfl (Or.inl ⟨by rfl,fun w9 hSw=>by have h9:=hSw.1;go_simp⟩) hHeld ?_
       try simp only [Act.put,sA,sB,sC]
       refine tkd (i:=2) (v:=.pointer (some ⟨b7,2,none⟩)) rfl hHeld ?_
       try simp only [Act.put,sA,sB,sC]
       refine tk (i:=3) (v:=.int .i64 (Y:Int)) rfl (Or.inl ⟨by rfl,fun w9 hSw=>by have h9:=hSw.2.1;go_simp⟩) hHeld ?_
       try simp only [Act.put,sA,sB,sC]
       refine tkd (i:=4) (v:=.pointer (some ⟨w.heap.size,Y,none⟩)) rfl hHeld ?_
       try simp only [Act.put,sA,sB,sC]
       refine tk (i:=5) (v:=.int .u64 (x Y:Int)) rfl (Or.inl ⟨by rfl,fun w9 hSw=>by have h9:=hSw.2.2.1;go_simp⟩) hHeld ?_
       try simp only [Act.put,sA,sB,sC]
       refine tkd (i:=6) (v:=.pointer (some ⟨B9,X,none⟩)) rfl hHeld ?_
       try simp only [Act.put,sA,sB,sC]
       refine wpAnyH_ready (rs:=[7]) (by kernel_rfl) (by simp) ?_
       refine AllReadyH.cons (o:=⟨_,_,_,_,_,_⟩) rfl (fun K hK=>?_) AllReadyH.nil
       have cq:=HP9.out.cell hX6
       have sq:=HP9.out.soft X
       go_simp
       refine hK.out _ _ ⟨(World.cell?_of_block (heap_setCell_other _ ⟨B9,X,none⟩ _ (.int .u64 ((x Y:Nat):Int)) (by show b7≠B9;have:=HN9.out;omega))).trans hHeld.1,(World.cell?_of_block (heap_setCell_other _ ⟨B9,X,none⟩ _ (.int .u64 ((x Y:Nat):Int)) (by show b7≠B9;have:=HN9.out;omega))).trans hHeld.2.1,(World.cell?_of_block (heap_setCell_other _ ⟨B9,X,none⟩ _ (.int .u64 ((x Y:Nat):Int)) (by show w.heap.size≠B9;have:=HN9.out;omega))).trans hHeld.2.2.1,below_set hHeld.2.2.2 (Nat.le_refl _)⟩ (fun hHeld=>?_)
       replace HP9:=Lib.hid (HP9.out.put (v:=x Y) hX6)
       replace HP6:=Lib.hid (HP6.out.same (heap_setCell_other _ ⟨B9,X,none⟩ _ (.int .u64 ((x Y:Nat):Int)) (by show w.heap.size+1≠B9;have:=HN9.out;omega)))
       clear hK K cq sq
       refine wpAnyH_done (by kernel_rfl) ?_ _
       skip
       have HBB:=Lib.hid (HB.out.trans (hHeld.2.2.2.mono (by have:=HN9.out;omega)))
       clear hHeld
       have HR_:=Lib.hid HP9.out.range
       have HT_:=Lib.hid HP6.out.there
       have HO_:=Lib.hid (HP6.out.allRow (setAt fl X (x Y)))
       have HBS_:=Lib.hid (below_setCells (b:=w.heap.size+1) (o:=0) (vs:=perC (setAt fl X (x Y))) HBB.out (by omega) HBB.out.size)
       have HEQ_:Hid (perC (lentZ ts d k x)=perC (setAt fl X (x Y))):=Lib.hid (perC_congr fun v hv=>by (rw [HZ.out v hv];unfold setAt;by_cases h9:v=X <;> simp [h9,HLESS.out v hv]))
       have hiW:Hid ((Tryz.prog.info? 91).map (·.size)=some 6):=by exact (show (Tryz.prog.info? 91).map (·.size)=some 6 from by kernel_rfl)
       clear HP9 HP6 HBB
       go_wp2_with (first
        | ((with_reducible show wpList _ _ _ _ _ _);refine wpList_load_mid rfl 91 _ rfl B9 0 rfl (perC (setAt fl X (x Y))) _ HR_.out Tryz.underlying91 rfl hiW.out ?_)
        | ((with_reducible show wpList _ _ _ _ _ _);refine wpList_store_mid rfl 91 _ _ rfl (w.heap.size+1) 0 (perC (setAt fl X (x Y))).toArray rfl rfl HT_.out hiW.out (perC_one _) ?_))
       refine bodyPost_ret (v:=.agg (perC (setAt fl X (x Y))).toArray) ?_ rfl ⟨by rw [HEQ_.out],HBS_.out⟩
       exact results_cell rfl Tryz.prog _ _ (w.heap.size+1) _ rfl (load_per HO_.out rfl)
      ·have n3:(op==3)=false:=by simp [h3]
       replace HZ:=Lib.hid (fun v hv=>by rw [HZ.out v hv,if_neg (by rintro ⟨h9 | h9,_⟩;exact h4 h9;exact h5 h9),if_neg (by rintro ⟨h9,_⟩;exact h3 h9)]:∀ v,v<6→lentZ ts d k x v=if U.testBit v then 0 else x v)
       clear h3 h4 h5
       have HR_:=Lib.hid HP9.out.range
       have HT_:=Lib.hid HP6.out.there
       have HO_:=Lib.hid (HP6.out.allRow fl)
       have HBS_:=Lib.hid (below_setCells (b:=w.heap.size+1) (o:=0) (vs:=perC fl) HBB.out (by omega) HBB.out.size)
       have HEQ_:Hid (perC (lentZ ts d k x)=perC fl):=Lib.hid (perC_congr fun v hv=>by (rw [HZ.out v hv,HLESS.out v hv]))
       have hiW:Hid ((Tryz.prog.info? 91).map (·.size)=some 6):=by exact (show (Tryz.prog.info? 91).map (·.size)=some 6 from by kernel_rfl)
       clear HP9 HP6 HBB
       go_wp2_with (first
        | ((with_reducible show wpList _ _ _ _ _ _);refine wpList_load_mid rfl 91 _ rfl B9 0 rfl (perC fl) _ HR_.out Tryz.underlying91 rfl hiW.out ?_)
        | ((with_reducible show wpList _ _ _ _ _ _);refine wpList_store_mid rfl 91 _ _ rfl (w.heap.size+1) 0 (perC fl).toArray rfl rfl HT_.out hiW.out (perC_one _) ?_))
       refine bodyPost_ret (v:=.agg (perC fl).toArray) ?_ rfl ⟨by rw [HEQ_.out],HBS_.out⟩
       exact results_cell rfl Tryz.prog _ _ (w.heap.size+1) _ rfl (load_per HO_.out rfl)
end Go.Proofs.YtedkkphogeealaaGreatDoor
namespace Go.Proofs.YtedkkphogeealaaGreatDoor.flowLent
open Go.RowKit Go.Deep
set_option linter.unusedVariables false
set_option maxHeartbeats 1000000
def bothV:Value:=.agg #[.iface 155 (.agg #[]),.iface 156 (.agg #[])]
theorem ahead_l (v:Value) (w:World):(nilAhead 368 156 v "loop.example/borrowcheck/impl.least").run Tryz.prog w=.ok (some false) w:=by kernel_rfl
theorem at_l (v:Value) (w:World):(method 368 156 v "loop.example/borrowcheck/impl.least").run Tryz.prog w=.ok (162,v) w:=by kernel_rfl
theorem ahead_j (v:Value) (w:World):(nilAhead 368 156 v "loop.example/borrowcheck/impl.join").run Tryz.prog w=.ok (some false) w:=by kernel_rfl
theorem at_j (v:Value) (w:World):(method 368 156 v "loop.example/borrowcheck/impl.join").run Tryz.prog w=.ok (161,v) w:=by kernel_rfl
theorem ahead_pl (v:Value) (w:World):(nilAhead 368 162 v "loop.example/borrowcheck/impl.least").run Tryz.prog w=.ok (some false) w:=by kernel_rfl
theorem at_pl (v:Value) (w:World):(method 368 162 v "loop.example/borrowcheck/impl.least").run Tryz.prog w=.ok (164,v) w:=by kernel_rfl
theorem ahead_pj (v:Value) (w:World):(nilAhead 368 162 v "loop.example/borrowcheck/impl.join").run Tryz.prog w=.ok (some false) w:=by kernel_rfl
theorem at_pj (v:Value) (w:World):(method 368 162 v "loop.example/borrowcheck/impl.join").run Tryz.prog w=.ok (163,v) w:=by kernel_rfl
theorem least_any (w:World):Calls Tryz.prog 162 #[.agg #[]] w fun E w'=>E=.returned (.int .u64 0)∧Below w.heap.size w w':=by
 have hb0:=(Below.refl w.heap.size w).alloc (Nat.le_refl _) (.cells #[] 156)
 go_enter Tryz.func162,Tryz.ntmps162
 go_wp2_with fail
 go_ret
 exact ⟨rfl,by first | exact hb0 | exact hb0.drew | exact Below.refl _ _ | exact (Below.refl _ _).drew⟩
theorem join_any (x y:Nat) (hx:x<18446744073709551616) (hy:y<18446744073709551616) (w:World):Calls Tryz.prog 161 #[.agg #[],.int .u64 x,.int .u64 y] w fun E w'=>E=.returned (.int .u64 ((x|||y:Nat):Int))∧Below w.heap.size w w':=by
 have hb0:=(Below.refl w.heap.size w).alloc (Nat.le_refl _) (.cells #[] 156)
 have h1:=bits_or_u64_nat x y hx hy
 go_enter Tryz.func161,Tryz.ntmps161
 go_wp2_with (simp only [h1])
 go_ret
 exact ⟨rfl,by first | exact hb0 | exact hb0.drew | exact Below.refl _ _ | exact (Below.refl _ _).drew⟩
end Go.Proofs.YtedkkphogeealaaGreatDoor.flowLent
namespace Go.Proofs.YtedkkphogeealaaGreatDoor.flowLent
open Go.RowKit Go.Deep
set_option linter.unusedVariables false
set_option maxRecDepth 100000
set_option maxHeartbeats 4000000
theorem build_lent (x:Nat→Nat) (w:World):(Instr.build 94 #[(0,.agg (perC x).toArray),(1,.int .u64 (x 6:Int))]).run Tryz.prog w=.ok (.agg (lentC x).toArray) w:=run_build w 94 _ _ (by kernel_rfl)
theorem row7_set {W:World} {g:Nat} (x:Nat→Nat) (h:∃ cs,W.heap[g]?=some (.cells cs 94 (0,0))∧cs.size=7):(W.setCells g 0 (lentC x)).heap[g]?=some (.cells (lentC x).toArray 94 (0,0)):=by
 obtain ⟨cs,h1,h2⟩:=h
 have h3:=heap_setCells (lentC x) 0 W cs h1 (by rw [h2];exact Nat.le_refl 7)
 rw [show lentC x=(lentC x).toArray.toList from rfl,setN_all cs (lentC x).toArray (by rw [h2];rfl)] at h3
 exact h3
theorem row7_there {W:World} {g:Nat} (h:∃ cs,W.heap[g]?=some (.cells cs 94 (0,0))∧cs.size=7):W.there g 0 7:=by
 obtain ⟨cs,h1,h2⟩:=h
 intro j hj
 refine ⟨?_,frozen_of_row _ _ _ _ _ h1⟩
 rw [cB h1,Array.getElem?_eq_getElem (by omega)]
 rfl
structure LS (w w':World):Prop where
 below:Below w.heap.size w w'
 p:w'.heap[w.heap.size]?=some (.cells #[.iface 155 (.agg #[]),.iface 156 (.agg #[])] 162 (0,0))
 r:∃ cs,w'.heap[w.heap.size+1]?=some (.cells cs 94 (0,0))∧cs.size=7
theorem LS.keep {w a b:World} (h:LS w a) (hb:Below a.heap.size a b):LS w b:=by
 obtain ⟨cs,r1,r2⟩:=h.r
 exact ⟨h.below.trans (hb.mono h.below.size),(hb.block _ (heap_lt h.p)).trans h.p,cs,(hb.block _ (heap_lt r1)).trans r1,r2⟩
theorem LS.put {w a:World} (h:LS w a) (x:Nat→Nat):LS w (a.setCells (w.heap.size+1) 0 (lentC x)):=by
 obtain ⟨cs,r1,r2⟩:=h.r
 have hl:=heap_lt r1
 exact ⟨below_setCells h.below (by omega) (by omega),(World.heap_setCells_other _ _ _ _ (by omega) (by omega)).trans h.p,_,row7_set x h.r,rfl⟩
structure JS (x y:Nat→Nat) (w w':World):Prop where
 below:Below w.heap.size w w'
 p:w'.heap[w.heap.size]?=some (.cells #[.iface 155 (.agg #[]),.iface 156 (.agg #[])] 162 (0,0))
 a:w'.heap[w.heap.size+1]?=some (.cells (lentC x).toArray 94 (0,0))
 b:w'.heap[w.heap.size+1+1]?=some (.cells (lentC y).toArray 94 (0,0))
 r:∃ cs,w'.heap[w.heap.size+1+1+1]?=some (.cells cs 94 (0,0))∧cs.size=7
theorem JS.keep {x y:Nat→Nat} {w a b:World} (h:JS x y w a) (hb:Below a.heap.size a b):JS x y w b:=by
 obtain ⟨cs,r1,r2⟩:=h.r
 exact ⟨h.below.trans (hb.mono h.below.size),(hb.block _ (heap_lt h.p)).trans h.p,(hb.block _ (heap_lt h.a)).trans h.a,(hb.block _ (heap_lt h.b)).trans h.b,cs,(hb.block _ (heap_lt r1)).trans r1,r2⟩
theorem JS.put {x y:Nat→Nat} {w a:World} (h:JS x y w a) (z:Nat→Nat):JS x y w (a.setCells (w.heap.size+1+1+1) 0 (lentC z)):=by
 obtain ⟨cs,r1,r2⟩:=h.r
 have hl:=heap_lt r1
 exact ⟨below_setCells h.below (by omega) (by omega),(World.heap_setCells_other _ _ _ _ (by omega) (by omega)).trans h.p,(World.heap_setCells_other _ _ _ _ (by omega) (by omega)).trans h.a,(World.heap_setCells_other _ _ _ _ (by omega) (by omega)).trans h.b,_,row7_set z h.r,rfl⟩
theorem row7_range {W:World} {g:Nat} {x:Nat→Nat} (h:W.heap[g]?=some (.cells (lentC x).toArray 94 (0,0))):W.rangeAt g 0 (perC x):=by
 intro j v hv
 have hj:j<6:=(List.getElem?_eq_some_iff.mp hv).1
 rw [perC_get _ hj] at hv
 rw [Nat.zero_add,cB h,← hv]
 simpa using lentC_get x (v:=j) (by omega)
theorem prodLeast_any (w:World):Calls Tryz.prog 164 #[bothV] w fun E w'=>E=.returned (.agg (lentC (fun _=>0)).toArray)∧Below w.heap.size w w':=by
 have hal:=ahead_l
 have hml:=at_l
 have hae:=ahead_el
 have hme:=at_el
 obtain ⟨hb,hz,h1,h2⟩:=two_new w (.cells #[.iface 155 (.agg #[]),.iface 156 (.agg #[])] 162) (.cells #[.int .u64 0,.int .u64 0,.int .u64 0,.int .u64 0,.int .u64 0,.int .u64 0,.int .u64 0] 94)
 unfold bothV
 go_enter Tryz.func164,Tryz.ntmps164
 go_wp2_with fail
 generalize (w.alloc (.cells #[.iface 155 (.agg #[]),.iface 156 (.agg #[])] 162)).alloc (.cells #[.int .u64 0,.int .u64 0,.int .u64 0,.int .u64 0,.int .u64 0,.int .u64 0,.int .u64 0] 94)=w1 at *
 have hS:LS w w1.drew:=⟨hb.drew,h1,_,h2,rfl⟩
 clear h1 h2 hb hz
 refine wp_region_held_drew (S:=fun w'=>LS w w') (by kernel_rfl) hS (fun hHeld=>?_)
 clear hS
 generalize w1.drew=wd at *
 refine tkd (i:=0) (v:=.pointer (some ⟨w.heap.size,0,none⟩)) rfl hHeld ?_
 try simp only [Act.put,sA,sB,sC]
 refine tk (i:=1) (v:=.iface 155 (.agg #[])) rfl (Or.inl ⟨by rfl,fun w9 hSw=>by have h9:=(cB hSw.p 0);go_simp⟩) hHeld ?_
 try simp only [Act.put,sA,sB,sC]
 refine tkd (i:=3) (v:=.pointer (some ⟨w.heap.size,1,none⟩)) rfl hHeld ?_
 try simp only [Act.put,sA,sB,sC]
 refine tk (i:=4) (v:=.iface 156 (.agg #[])) rfl (Or.inl ⟨by rfl,fun w9 hSw=>by have h9:=(cB hSw.p 1);go_simp⟩) hHeld ?_
 try simp only [Act.put,sA,sB,sC]
 refine wpAnyH_ready (rs:=[2]) (by kernel_rfl) (by simp) ?_
 refine AllReadyH.cons (o:=⟨_,_,_,_,_,_⟩) rfl (fun K hK=>?_) AllReadyH.nil
 go_simp
 refine (eachLeast_any _).mono ?_
 rintro E w1 ⟨rfl,hb1⟩
 refine hK.out _ _ (hHeld.keep hb1) (fun hHeld=>?_)
 clear hK K
 refine wpAnyH_ready (rs:=[5]) (by kernel_rfl) (by simp) ?_
 refine AllReadyH.cons (o:=⟨_,_,_,_,_,_⟩) rfl (fun K hK=>?_) AllReadyH.nil
 go_simp
 refine (least_any _).mono ?_
 rintro E w2 ⟨rfl,hb2⟩
 refine hK.out _ _ (hHeld.keep hb2) (fun hHeld=>?_)
 clear hK K
 refine tk (i:=6) (v:=.agg (lentC (fun _=>0)).toArray) rfl (Or.inl ⟨by rfl,fun w9 hSw=>by have h9:=build_lent (fun _=>0) w9;simpa [go_sem,perC] using h9⟩) hHeld ?_
 try simp only [Act.put,sA,sB,sC]
 refine wpAnyH_ready (rs:=[7]) (by kernel_rfl) (by simp) ?_
 refine AllReadyH.cons (o:=⟨_,_,_,_,_,_⟩) rfl (fun K hK=>?_) AllReadyH.nil
 rw [if_pos (by rfl)]
 refine wp_store_mid _ _ _ rfl (w.heap.size+1) 0 (lentC (fun _=>0)).toArray rfl rfl (row7_there hHeld.r) (by kernel_rfl) (lentC_one _) ?_
 simp only [Act.put]
 have hfin:=Lib.hid (row7_set (fun _=>0) hHeld.r)
 refine hK.out _ _ (hHeld.put _) (fun hHeld=>?_)
 clear hK K
 refine wpAnyH_done (by kernel_rfl) ?_ _
 go_wp2_with fail
 refine bodyPost_ret (v:=.agg (lentC (fun _=>0)).toArray) ?_ rfl ⟨rfl,hHeld.below⟩
 exact results_cell rfl Tryz.prog _ _ (w.heap.size+1) _ rfl (load_lent hfin.out rfl)
theorem lentC6 (x:Nat→Nat):(lentC x).toArray[6]?=some (.int .u64 (x 6:Int)):=rfl
theorem four_lent (w:World) (x y:Nat→Nat):JS x y w (((((w.alloc (.cells #[.iface 155 (.agg #[]),.iface 156 (.agg #[])] 162)).alloc (.cells (lentC x).toArray 94)).alloc (.cells (lentC y).toArray 94)).alloc (.cells #[.int .u64 0,.int .u64 0,.int .u64 0,.int .u64 0,.int .u64 0,.int .u64 0,.int .u64 0] 94)).drew):=by
 have b1:=(Below.refl w.heap.size w).alloc (Nat.le_refl _) (.cells #[.iface 155 (.agg #[]),.iface 156 (.agg #[])] 162)
 have b2:=b1.alloc (by simp) (.cells (lentC x).toArray 94)
 have b3:=b2.alloc (by simp;omega) (.cells (lentC y).toArray 94)
 have b4:=b3.alloc (by simp;omega) (.cells #[.int .u64 0,.int .u64 0,.int .u64 0,.int .u64 0,.int .u64 0,.int .u64 0,.int .u64 0] 94)
 have n1:=heap_alloc_new w (.cells #[.iface 155 (.agg #[]),.iface 156 (.agg #[])] 162)
 have n2:=heap_alloc_new (w.alloc (.cells #[.iface 155 (.agg #[]),.iface 156 (.agg #[])] 162)) (.cells (lentC x).toArray 94)
 have n3:=heap_alloc_new ((w.alloc (.cells #[.iface 155 (.agg #[]),.iface 156 (.agg #[])] 162)).alloc (.cells (lentC x).toArray 94)) (.cells (lentC y).toArray 94)
 have n4:=heap_alloc_new (((w.alloc (.cells #[.iface 155 (.agg #[]),.iface 156 (.agg #[])] 162)).alloc (.cells (lentC x).toArray 94)).alloc (.cells (lentC y).toArray 94)) (.cells #[.int .u64 0,.int .u64 0,.int .u64 0,.int .u64 0,.int .u64 0,.int .u64 0,.int .u64 0] 94)
 have k:∀ (W:World) (o:Obj),Below W.heap.size W (W.alloc o):=fun W o=>(Below.refl _ _).alloc (Nat.le_refl _) o
 have m1:=((k _ (.cells #[.int .u64 0,.int .u64 0,.int .u64 0,.int .u64 0,.int .u64 0,.int .u64 0,.int .u64 0] 94)).block _ (heap_lt (((k _ (.cells (lentC y).toArray 94)).block _ (heap_lt (((k _ (.cells (lentC x).toArray 94)).block _ (heap_lt n1)).trans n1))).trans (((k _ (.cells (lentC x).toArray 94)).block _ (heap_lt n1)).trans n1)))).trans (((k _ (.cells (lentC y).toArray 94)).block _ (heap_lt (((k _ (.cells (lentC x).toArray 94)).block _ (heap_lt n1)).trans n1))).trans (((k _ (.cells (lentC x).toArray 94)).block _ (heap_lt n1)).trans n1))
 have m2:=((k _ (.cells #[.int .u64 0,.int .u64 0,.int .u64 0,.int .u64 0,.int .u64 0,.int .u64 0,.int .u64 0] 94)).block _ (heap_lt (((k _ (.cells (lentC y).toArray 94)).block _ (heap_lt n2)).trans n2))).trans (((k _ (.cells (lentC y).toArray 94)).block _ (heap_lt n2)).trans n2)
 have m3:=((k _ (.cells #[.int .u64 0,.int .u64 0,.int .u64 0,.int .u64 0,.int .u64 0,.int .u64 0,.int .u64 0] 94)).block _ (heap_lt n3)).trans n3
 have e2:(w.alloc (.cells #[.iface 155 (.agg #[]),.iface 156 (.agg #[])] 162)).heap.size=w.heap.size+1:=by simp
 have e3:((w.alloc (.cells #[.iface 155 (.agg #[]),.iface 156 (.agg #[])] 162)).alloc (.cells (lentC x).toArray 94)).heap.size=w.heap.size+1+1:=by simp
 have e4:(((w.alloc (.cells #[.iface 155 (.agg #[]),.iface 156 (.agg #[])] 162)).alloc (.cells (lentC x).toArray 94)).alloc (.cells (lentC y).toArray 94)).heap.size=w.heap.size+1+1+1:=by simp
 rw [e2] at m2
 rw [e3] at m3
 rw [e4] at n4
 exact ⟨b4.drew,m1,m2,m3,#[.int .u64 0,.int .u64 0,.int .u64 0,.int .u64 0,.int .u64 0,.int .u64 0,.int .u64 0],n4,rfl⟩
theorem prodJoin_any (x y:Nat→Nat) (hx:∀ v,x v<2305843009213693952) (hy:∀ v,y v<2305843009213693952) (w:World):Calls Tryz.prog 163 #[bothV,.agg (lentC x).toArray,.agg (lentC y).toArray] w fun E w'=>E=.returned (.agg (lentC (fun v=>x v|||y v)).toArray)∧Below w.heap.size w w':=by
 have hal:=ahead_j
 have hml:=at_j
 have hae:=ahead_ej
 have hme:=at_ej
 have h4:=four_lent w x y
 unfold bothV
 go_enter Tryz.func163,Tryz.ntmps163
 go_wp2_with fail
 refine wp_region_held_drew (S:=fun w'=>JS x y w w') (by kernel_rfl) h4 (fun hHeld=>?_)
 clear h4
 generalize World.drew _=wd at *
 refine tkd (i:=0) (v:=.pointer (some ⟨w.heap.size,0,none⟩)) rfl hHeld ?_
 try simp only [Act.put,sA,sB,sC]
 refine tk (i:=1) (v:=.iface 155 (.agg #[])) rfl (Or.inl ⟨by rfl,fun w9 hSw=>by have h9:=(cB hSw.p 0);go_simp⟩) hHeld ?_
 try simp only [Act.put,sA,sB,sC]
 refine tkd (i:=2) (v:=.pointer (some ⟨(w.heap.size+1),0,none⟩)) rfl hHeld ?_
 try simp only [Act.put,sA,sB,sC]
 refine tk (i:=3) (v:=.agg (perC x).toArray) rfl (yieldsIf_load_mid (by rfl) _ _ rfl (w.heap.size+1) 0 rfl (perC x) _ (fun w' h=>row7_range h.a) Tryz.underlying91 rfl (by kernel_rfl)) hHeld ?_
 try simp only [Act.put,sA,sB,sC]
 refine tkd (i:=4) (v:=.pointer (some ⟨(w.heap.size+1+1),0,none⟩)) rfl hHeld ?_
 try simp only [Act.put,sA,sB,sC]
 refine tk (i:=5) (v:=.agg (perC y).toArray) rfl (yieldsIf_load_mid (by rfl) _ _ rfl (w.heap.size+1+1) 0 rfl (perC y) _ (fun w' h=>row7_range h.b) Tryz.underlying91 rfl (by kernel_rfl)) hHeld ?_
 try simp only [Act.put,sA,sB,sC]
 refine tkd (i:=7) (v:=.pointer (some ⟨w.heap.size,1,none⟩)) rfl hHeld ?_
 try simp only [Act.put,sA,sB,sC]
 refine tk (i:=8) (v:=.iface 156 (.agg #[])) rfl (Or.inl ⟨by rfl,fun w9 hSw=>by have h9:=(cB hSw.p 1);go_simp⟩) hHeld ?_
 try simp only [Act.put,sA,sB,sC]
 refine tkd (i:=9) (v:=.pointer (some ⟨(w.heap.size+1),6,none⟩)) rfl hHeld ?_
 try simp only [Act.put,sA,sB,sC]
 refine tk (i:=10) (v:=.int .u64 (x 6:Int)) rfl (Or.inl ⟨by rfl,fun w9 hSw=>by have h9:=(cB hSw.a 6).trans (lentC6 x);go_simp⟩) hHeld ?_
 try simp only [Act.put,sA,sB,sC]
 refine tkd (i:=11) (v:=.pointer (some ⟨(w.heap.size+1+1),6,none⟩)) rfl hHeld ?_
 try simp only [Act.put,sA,sB,sC]
 refine tk (i:=12) (v:=.int .u64 (y 6:Int)) rfl (Or.inl ⟨by rfl,fun w9 hSw=>by have h9:=(cB hSw.b 6).trans (lentC6 y);go_simp⟩) hHeld ?_
 try simp only [Act.put,sA,sB,sC]
 refine wpAnyH_ready (rs:=[6]) (by kernel_rfl) (by simp) ?_
 refine AllReadyH.cons (o:=⟨_,_,_,_,_,_⟩) rfl (fun K hK=>?_) AllReadyH.nil
 go_simp
 refine (eachJoin_any x y hx hy _).mono ?_
 rintro E w1 ⟨rfl,hb1⟩
 refine hK.out _ _ (hHeld.keep hb1) (fun hHeld=>?_)
 clear hK K
 refine wpAnyH_ready (rs:=[13]) (by kernel_rfl) (by simp) ?_
 refine AllReadyH.cons (o:=⟨_,_,_,_,_,_⟩) rfl (fun K hK=>?_) AllReadyH.nil
 go_simp
 refine (join_any (x 6) (y 6) (by have:=hx 6;omega) (by have:=hy 6;omega) _).mono ?_
 rintro E w2 ⟨rfl,hb2⟩
 refine hK.out _ _ (hHeld.keep hb2) (fun hHeld=>?_)
 clear hK K
 refine tk (i:=14) (v:=.agg (lentC (fun v=>x v|||y v)).toArray) rfl (Or.inl ⟨by rfl,fun w9 hSw=>by have h9:=build_lent (fun v=>x v|||y v) w9;simpa [go_sem,perC] using h9⟩) hHeld ?_
 try simp only [Act.put,sA,sB,sC]
 refine wpAnyH_ready (rs:=[15]) (by kernel_rfl) (by simp) ?_
 refine AllReadyH.cons (o:=⟨_,_,_,_,_,_⟩) rfl (fun K hK=>?_) AllReadyH.nil
 rw [if_pos (by rfl)]
 refine wp_store_mid _ _ _ rfl (w.heap.size+1+1+1) 0 (lentC (fun v=>x v|||y v)).toArray rfl rfl (row7_there hHeld.r) (by kernel_rfl) (lentC_one _) ?_
 simp only [Act.put]
 have hfin:=Lib.hid (row7_set (fun v=>x v|||y v) hHeld.r)
 refine hK.out _ _ (hHeld.put _) (fun hHeld=>?_)
 clear hK K
 refine wpAnyH_done (by kernel_rfl) ?_ _
 go_wp2_with fail
 refine bodyPost_ret (v:=.agg (lentC (fun v=>x v|||y v)).toArray) ?_ rfl ⟨rfl,hHeld.below⟩
 exact results_cell rfl Tryz.prog _ _ (w.heap.size+1+1+1) _ rfl (load_lent hfin.out rfl)
end Go.Proofs.YtedkkphogeealaaGreatDoor.flowLent
namespace Go.Proofs.YtedkkphogeealaaGreatDoor
open Go.RowKit Go.Deep
set_option linter.unusedVariables false
set_option maxRecDepth 100000
set_option maxHeartbeats 4000000
theorem placed_iff {ts:List Int} {ns:List Nd} {k:Nat} {d:Nd} {x:Nat→Nat} (hd:ns[k]?=some d) (l:Nat) :
  ((isLoan ns k=true∧l=k)∨((x 6).testBit l=true∧∀ v,v<6→lostN ts ns k v→¬ isFrom ns v l=true))↔Beh (genL ns) (handL ts ns) k (bitR x) 6 l:=by
 unfold Beh
 refine or_congr ?_ ?_
 ·rw [isLoan_at hd,decide_eq_true_eq]
  constructor
  ·rintro ⟨h1,h2⟩
   exact ⟨d,hd,h1,h2,.inl rfl,by omega⟩
  ·rintro ⟨d',h1,h2,h3,_⟩
   rw [hd] at h1
   cases h1
   exact ⟨h2,h3⟩
 ·constructor
  ·rintro ⟨h1,h2⟩
   exact ⟨6,by omega,h1,.inr ⟨rfl,rfl,fun z hz hl hn=>h2 z hz hl (isFrom_iff.mpr hn)⟩⟩
  ·rintro ⟨u,hu,h1,h2⟩
   rcases h2 with ⟨h3,_⟩ | ⟨_,rfl,h3⟩
   ·omega
   ·exact ⟨h1,fun v hv hl hf=>h3 v hv hl (isFrom_iff.mp hf)⟩
structure BS (x:Nat→Nat) (w w':World):Prop where
 below:Below w.heap.size w w'
 a:w'.heap[w.heap.size]?=some (.cells (lentC x).toArray 94 (0,0))
 r:∃ cs,w'.heap[w.heap.size+1]?=some (.cells cs 94 (0,0))∧cs.size=7
theorem BS.keep {x:Nat→Nat} {w a b:World} (h:BS x w a) (hb:Below a.heap.size a b):BS x w b:=by
 obtain ⟨cs,r1,r2⟩:=h.r
 exact ⟨h.below.trans (hb.mono h.below.size),(hb.block _ (heap_lt h.a)).trans h.a,cs,(hb.block _ (heap_lt r1)).trans r1,r2⟩
theorem BS.put {x:Nat→Nat} {w a:World} (h:BS x w a) (z:Nat→Nat):BS x w (a.setCells (w.heap.size+1) 0 (lentC z)):=by
 obtain ⟨cs,r1,r2⟩:=h.r
 have hl:=heap_lt r1
 exact ⟨below_setCells h.below (by omega) (by omega),(World.heap_setCells_other _ _ _ _ (by omega) (by omega)).trans h.a,_,flowLent.row7_set z h.r,rfl⟩
theorem lentBehind_any (ts:List Int) (ns:List Nd) (q C F hi:Nat) (A:Option Addr) (c:Nat) (ah bk:Nat→Nat) (L:Nat) (mb lv:Nat→Nat) (k:Nat) (x:Nat→Nat) (d:Nd) (w:World) (h:LndIn ts ns C F hi A c ah bk L ns.length mb lv w) (hD:PtsOk q ns) (hA:AllTyped ts ns) (hd:ns[k]?=some d) (hTab:TabAt 0 Lib.deBruijn64tab w) (hg:0<w.heap.size) (hx:∀ v,x v<2305843009213693952) :
  Calls Tryz.prog 93 #[.pointer (some ⟨L,0,none⟩),.int .i64 k,.agg (lentC x).toArray] w fun E w'=>∃ z:Nat→Nat,E=.returned (.agg (lentC z).toArray)∧(∀ v,z v<2305843009213693952)∧(∀ v,v<7→∀ l,(bitR z v l↔Beh (genL ns) (handL ts ns) k (bitR x) v l))∧Below w.heap.size w w':=by
 have hk61:k<61:=by have:=(List.getElem?_eq_some_iff.mp hd).1;have:=h.fl.gr.le;omega
 obtain ⟨hb,hz,h1,h2⟩:=two_new w (.cells (lentC x).toArray 94) (.cells #[.int .u64 0,.int .u64 0,.int .u64 0,.int .u64 0,.int .u64 0,.int .u64 0,.int .u64 0] 94)
 have hS:BS x w ((w.alloc (.cells (lentC x).toArray 94)).alloc (.cells #[.int .u64 0,.int .u64 0,.int .u64 0,.int .u64 0,.int .u64 0,.int .u64 0,.int .u64 0] 94)).drew:=⟨hb.drew,h1,_,h2,rfl⟩
 have HL:=Lib.hid h
 have HD:=Lib.hid hD
 have HA:=Lib.hid hA
 have HDK:=Lib.hid hd
 have HTAB:=Lib.hid hTab
 have HX:=Lib.hid hx
 clear h hD hA hd hTab hx hb hz h1 h2
 go_enter Tryz.func93,Tryz.ntmps93
 go_wp2_with fail
 refine wp_region_held_drew (S:=fun w'=>BS x w w') (by kernel_rfl) hS (fun hHeld=>?_)
 clear hS
 generalize World.drew _=wd at *
 refine tkd (i:=0) (v:=.pointer (some ⟨L,0,none⟩)) rfl hHeld ?_
 try simp only [Act.put,sA,sB,sC]
 refine tkd (i:=1) (v:=.int .i64 (k:Int)) rfl hHeld ?_
 try simp only [Act.put,sA,sB,sC]
 refine tkd (i:=2) (v:=.pointer (some ⟨w.heap.size,0,none⟩)) rfl hHeld ?_
 try simp only [Act.put,sA,sB,sC]
 refine tk (i:=3) (v:=.agg (perC x).toArray) rfl (yieldsIf_load_mid (by rfl) _ _ rfl w.heap.size 0 rfl (perC x) _ (fun w' h=>flowLent.row7_range h.a) Tryz.underlying91 rfl (by kernel_rfl)) hHeld ?_
 try simp only [Act.put,sA,sB,sC]
 refine tkd (i:=5) (v:=.pointer (some ⟨L,0,none⟩)) rfl hHeld ?_
 try simp only [Act.put,sA,sB,sC]
 refine tkd (i:=6) (v:=.int .i64 (k:Int)) rfl hHeld ?_
 try simp only [Act.put,sA,sB,sC]
 refine tkd (i:=7) (v:=.pointer (some ⟨w.heap.size,6,none⟩)) rfl hHeld ?_
 try simp only [Act.put,sA,sB,sC]
 refine tk (i:=8) (v:=.int .u64 (x 6:Int)) rfl (Or.inl ⟨by rfl,fun w9 hSw=>by have h9:=(cB hSw.a 6).trans (flowLent.lentC6 x);go_simp⟩) hHeld ?_
 try simp only [Act.put,sA,sB,sC]
 refine wpAnyH_ready (rs:=[4]) (by kernel_rfl) (by simp) ?_
 refine AllReadyH.cons (o:=⟨_,_,_,_,_,_⟩) rfl (fun K hK=>?_) AllReadyH.nil
 go_simp
 refine (loansBehind_any ts ns q C F hi A c ah bk L mb lv k x d _ (HL.out.keep hHeld.below) HD.out HA.out HDK.out (tab_below HTAB.out hg hHeld.below) (by have:=hHeld.below.size;omega) HX.out).mono ?_
 rintro E wq ⟨rfl,hbq⟩
 refine hK.out _ _ (hHeld.keep hbq) (fun hHeld=>?_)
 clear hK K hbq
 refine wpAnyH_ready (rs:=[9]) (by kernel_rfl) (by simp) ?_
 refine AllReadyH.cons (o:=⟨_,_,_,_,_,_⟩) rfl (fun K hK=>?_) AllReadyH.nil
 go_simp
 refine (placedBehind_any ts ns q C F hi A c ah bk L mb lv k (x 6) d _ (HL.out.keep hHeld.below) HD.out HA.out HDK.out (tab_below HTAB.out hg hHeld.below) (by have:=hHeld.below.size;omega) (HX.out 6)).mono ?_
 rintro E wq ⟨zp,rfl,hzp,hzb,hbq⟩
 have HZP:=Lib.hid hzp
 have HZB:=Lib.hid hzb
 refine hK.out _ _ (hHeld.keep hbq) (fun hHeld=>?_)
 clear hK K hbq hzp hzb
 refine tk (i:=10) (v:=.agg (lentC (fun v=>if v=6 then zp else lentZ ts d k x v)).toArray) rfl (Or.inl ⟨by rfl,fun w9 hSw=>by have h9:=flowLent.build_lent (fun v=>if v=6 then zp else lentZ ts d k x v) w9;simpa [go_sem,perC] using h9⟩) hHeld ?_
 try simp only [Act.put,sA,sB,sC]
 refine wpAnyH_ready (rs:=[11]) (by kernel_rfl) (by simp) ?_
 refine AllReadyH.cons (o:=⟨_,_,_,_,_,_⟩) rfl (fun K hK=>?_) AllReadyH.nil
 rw [if_pos (by rfl)]
 refine wp_store_mid _ _ _ rfl (w.heap.size+1) 0 (lentC (fun v=>if v=6 then zp else lentZ ts d k x v)).toArray rfl rfl (flowLent.row7_there hHeld.r) (by kernel_rfl) (lentC_one _) ?_
 simp only [Act.put]
 have hfin:=Lib.hid (flowLent.row7_set (fun v=>if v=6 then zp else lentZ ts d k x v) hHeld.r)
 refine hK.out _ _ (hHeld.put _) (fun hHeld=>?_)
 clear hK K
 refine wpAnyH_done (by kernel_rfl) ?_ _
 go_wp2_with fail
 refine bodyPost_ret (v:=.agg (lentC (fun v=>if v=6 then zp else lentZ ts d k x v)).toArray) ?_ rfl ⟨(fun v=>if v=6 then zp else lentZ ts d k x v),rfl,?_,?_,hHeld.below⟩
 ·exact results_cell rfl Tryz.prog _ _ (w.heap.size+1) _ rfl (load_lent hfin.out rfl)
 ·intro v
  show (if v=6 then zp else lentZ ts d k x v)<_
  split
  ·exact HZP.out
  ·exact lentZ_lt hk61 HX.out v
 ·intro v hv l
  show (if v=6 then zp else lentZ ts d k x v).testBit l=true↔_
  by_cases h6:v=6
  ·subst h6
   rw [if_pos rfl,HZB.out l]
   exact placed_iff HDK.out l
  ·rw [if_neg h6]
   exact lentZ_iff HDK.out (effD_ok HA.out.1 (HA.out.2 k d HDK.out)) (by omega) l
end Go.Proofs.YtedkkphogeealaaGreatDoor
namespace Go.Proofs.YtedkkphogeealaaGreatDoor.flowLent
open Go.RowKit Go.Deep
set_option linter.unusedVariables false
set_option maxHeartbeats 4000000
def eq7 (x y:Nat→Nat):Bool:=(x 0==y 0) && (x 1==y 1) && (x 2==y 2) && (x 3==y 3) && (x 4==y 4) && (x 5==y 5) && (x 6==y 6)
theorem eq7_iff (x y:Nat→Nat):eq7 x y=true↔∀ v,v<7→x v=y v:=by
 unfold eq7
 simp only [Bool.and_eq_true,beq_iff_eq]
 constructor
 ·rintro ⟨⟨⟨⟨⟨⟨h0,h1⟩,h2⟩,h3⟩,h4⟩,h5⟩,h6⟩ v hv
  match v,hv with
  | 0,_=>exact h0
  | 1,_=>exact h1
  | 2,_=>exact h2
  | 3,_=>exact h3
  | 4,_=>exact h4
  | 5,_=>exact h5
  | 6,_=>exact h6
 ·intro h
  exact ⟨⟨⟨⟨⟨⟨h 0 (by omega),h 1 (by omega)⟩,h 2 (by omega)⟩,h 3 (by omega)⟩,h 4 (by omega)⟩,h 5 (by omega)⟩,h 6 (by omega)⟩
theorem eqPer (x y:Nat→Nat) (w:World):(Op.equalIn 9999 91 (.agg #[.int .u64 (x 0:Int),.int .u64 (x 1:Int),.int .u64 (x 2:Int),.int .u64 (x 3:Int),.int .u64 (x 4:Int),.int .u64 (x 5:Int)]) (.agg #[.int .u64 (y 0:Int),.int .u64 (y 1:Int),.int .u64 (y 2:Int),.int .u64 (y 3:Int),.int .u64 (y 4:Int),.int .u64 (y 5:Int)])).run Tryz.prog w=.ok ((x 0==y 0) && (x 1==y 1) && (x 2==y 2) && (x 3==y 3) && (x 4==y 4) && (x 5==y 5)) w:=by
 have u6:=Tryz.underlying89
 rw [show (9999:Nat)=9998+1 from rfl,Op.equalIn]
 simp only [Sem.run_bind,run_underlying Tryz.underlying91,Result.andThen_ok]
 simp only [Std.Legacy.Range.forIn_eq_forIn_range',Std.Legacy.Range.size,Nat.sub_zero,Nat.add_sub_cancel,Nat.div_one,List.range'_succ,List.range'_zero,List.forIn_cons,List.forIn_nil]
 go_simp
 generalize x 0=a0
 generalize x 1=a1
 generalize x 2=a2
 generalize x 3=a3
 generalize x 4=a4
 generalize x 5=a5
 generalize y 0=b0
 generalize y 1=b1
 generalize y 2=b2
 generalize y 3=b3
 generalize y 4=b4
 generalize y 5=b5
 have e:∀ a b:Nat,((a:Int)=(b:Int))↔a=b:=fun a b=>by omega
 simp only [e]
 by_cases h0:a0=b0
 ·subst h0
  by_cases h1:a1=b1
  ·subst h1
   by_cases h2:a2=b2
   ·subst h2
    by_cases h3:a3=b3
    ·subst h3
     by_cases h4:a4=b4
     ·subst h4
      by_cases h5:a5=b5
      ·subst h5;simp
      ·simp [h5]
     ·simp [h4]
    ·simp [h3]
   ·simp [h2]
  ·simp [h1]
 ·simp [h0]
theorem eqPair (x y:Nat→Nat) (w:World):(Op.equalIn 10000 94 (.agg (lentC x).toArray) (.agg (lentC y).toArray)).run Tryz.prog w=.ok (eq7 x y) w:=by
 have hS:Tryz.prog.underlying 94=some (.struct (Tryz.prog.fieldsOf 94)):=by kernel_rfl
 have hp:Tryz.prog.stoodInHeld 94=false:=by kernel_rfl
 have u6:=Tryz.underlying89
 have uP:=Tryz.underlying91
 rw [show (10000:Nat)=9999+1 from rfl,run_equalIn_agg w 9999 94 _ _ hS hp]
 simp only [Program.fieldsOf,Tryz.underlying94,lentC]
 obtain ⟨B,hB⟩:∃ B,B=((x 0==y 0) && (x 1==y 1) && (x 2==y 2) && (x 3==y 3) && (x 4==y 4) && (x 5==y 5)):=⟨_,rfl⟩
 have hP:=eqPer x y
 simp only [← hB] at hP
 have e7:eq7 x y=(B && (x 6==y 6)):=by rw [hB];rfl
 rw [e7]
 clear hB e7
 have e:∀ a b:Nat,((a:Int)=(b:Int))↔a=b:=fun a b=>by omega
 go_simp
 try simp only [e]
 by_cases h6:x 6=y 6 <;> cases B <;> simp [h6]
theorem guardPair:Tryz.prog.eqGuardType Tryz.prog.depth 94=false:=by kernel_rfl
theorem exec_neq (ρ:Operand→Value) (o:Oper) (x y:Operand) (t:TypeId) (ho:o.op=.binOp .neq 94 x y t) (a b:Nat→Nat) (hx:ρ x=.agg (lentC a).toArray) (hy:ρ y=.agg (lentC b).toArray) (w:World):(execOp ρ o).run Tryz.prog w=.ok (.value (.bool (!(eq7 a b)))) w:=by
 unfold execOp
 simp only [ho,hx,hy,Sem.run_bind,run_eqGuard_agg w .neq 94 x y _ _ guardPair,Result.andThen_ok,run_neq_struct,eqPair,Sem.run_pure]
end Go.Proofs.YtedkkphogeealaaGreatDoor.flowLent
