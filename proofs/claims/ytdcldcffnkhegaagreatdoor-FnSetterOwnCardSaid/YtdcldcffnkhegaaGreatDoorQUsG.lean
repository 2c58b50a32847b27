/- SetBy of the model and of the program. -/
import Derived.Test.YtdcldcffnkhegaaGreatDoorQL2Xb
import Derived.Test.YtdcldcffnkhegaaGreatDoorQFlwG
import Derived.Test.YtdcldcffnkhegaaGreatDoorQBits
import Derived.Test.YtdcldcffnkhegaaGreatDoorQGrX
import Derived.Test.YtdcldcffnkhegaaGreatDoorQMem
import Derived.Test.YtdcldcffnkhegaaGreatDoorQStmtY
import Derived.Deep.RegionHeld3
namespace Go.Proofs.YtdcldcffnkhegaaGreatDoor
open Go.RowKit Go.Deep
set_option linter.unusedVariables false
def setByI (ok:Bool) (s:Sts) (a:Int):Int:=if ok=true∧0≤a∧a<((progPts s).length:Int) then (((progPts s)[a.toNat]?).map setI).getD (-1) else -1
theorem setByI_no {ok:Bool} {s:Sts} {a:Int} (h:¬ (ok=true∧0≤a∧a<((progPts s).length:Int))):setByI ok s a=-1:=if_neg h
theorem setByI_yes {s:Sts} {a:Nat} {d:Nd} (hd:(progPts s)[a]?=some d):setByI true s a=setI d:=by
 have ha:=(List.getElem?_eq_some_iff.mp hd).1
 unfold setByI
 rw [if_pos ⟨rfl,by omega,by omega⟩]
 simp [hd]
theorem ctz_one {j:Nat} (h:j<6):Lib.ctz 64 (2 ^ j)=j:=by
 have:j=0∨j=1∨j=2∨j=3∨j=4∨j=5:=by omega
 rcases this with rfl | rfl | rfl | rfl | rfl | rfl <;> decide
set_option maxRecDepth 100000 in
set_option maxHeartbeats 4000000 in
theorem implSetBy_any (ts:List Int) (s:Sts) (At As:Option Addr) (ct cs:Nat) (a:Int) (w:World) (hT:IntsV w 0 w.heap.size ts At ct) (hR:RepV w 0 w.heap.size s As cs)
  (hTab:TabAt 0 Lib.deBruijn64tab w) (hg:0<w.heap.size) :
  Calls Tryz.prog 21 #[.agg #[.slice At ts.length ct,.slice As s.len cs],.int .i64 a] w fun E w'=>E=.returned (.int .i64 (setByI (validB ts s) s a))∧Below w.heap.size w w':=by
 have hb0:=(Below.refl w.heap.size w).alloc (Nat.le_refl _) (.cells #[.slice At ts.length ct,.slice As s.len cs] 26)
 have hz0:(w.alloc (.cells #[.slice At ts.length ct,.slice As s.len cs] 26)).heap.size=w.heap.size+1:=by simp
 have HZ:=Lib.hid hz0
 cases hok:validB ts s
 ·have hS:=flowsOf_no ts s At As ct cs _ hok (hT.below hb0 (by simp)) (hR.below hb0 (by simp))
  rw [setByI_no (fun h=>by cases h.1)]
  clear hz0 hok
  go_enter Tryz.func21,Tryz.ntmps21
  go_wp2_with fail
  refine hS.mono ?_
  rintro E w1 ⟨rfl,hb1⟩
  rw [HZ.out] at hb1
  have hb:Below w.heap.size w w1:=hb0.trans (hb1.mono (by omega))
  clear hb1 hS
  go_wp2_with fail
  go_ret
  exact ⟨rfl,by first | exact hb | exact hb.drew⟩
 ·have hS:=flowsOf_yes ts s At As ct cs _ hok (hT.below hb0 (by simp)) (hR.below hb0 (by simp))
  have hA:=progPts_allTyped hok
  by_cases hin:0≤a∧a<((progPts s).length:Int)
  ·obtain ⟨h0,h1⟩:=hin
   obtain ⟨k,rfl⟩:∃ k:Nat,a=(k:Int):=⟨a.toNat,by omega⟩
   obtain ⟨d,hd⟩:∃ d,(progPts s)[k]?=some d:=⟨(progPts s)[k],List.getElem?_eq_getElem (by omega)⟩
   rw [setByI_yes hd]
   have hef:=effD_ok hA.1 (hA.2 k d hd)
   have hone:=only_member hef.slt hef.sets
   generalize progPts s=ds at hS hd h1 hA
   have HDK:=Lib.hid hd
   have hkl:k<ds.length:=by omega
   have HA:=Lib.hid hA
   clear hz0 hd hok hef hA hT hR
   go_enter Tryz.func21,Tryz.ntmps21
   go_wp2_with fail
   refine hS.mono ?_
   rintro E w1 ⟨C,F,hi,A2,c2,ah,bk,rfl,hF,hfl,hb1⟩
   rw [HZ.out] at hF hb1
   have hb:Below w.heap.size w w1:=hb0.trans (hb1.mono (by omega))
   have hbz:=hb.size
   have hgc:=hfl.grCell
   have hhas:=has_yes C k ds w1 hfl.gr hkl
   have HFL:=Lib.hid hfl
   have hk61:k<61:=by have:=hfl.gr.le;omega
   clear hfl hb1 hS
   go_wp2_with fail
   refine hhas.mono ?_
   rintro E w2 ⟨rfl,hb2⟩
   have HF2:=Lib.hid (HFL.out.keep hb2)
   have hb':=hb.trans (hb2.mono hbz)
   have hbz':=hb'.size
   obtain ⟨e1,e2,e3,e4⟩:=HF2.out.effCell HDK.out
   have ki0:(0:Int)≤(k:Int):=by omega
   have ki1:(k:Int)<61:=by omega
   clear hhas hb2 hgc e1 e2 e3
   rcases hone with ⟨hz,hr⟩ | ⟨hr0,hr5,hz⟩
   ·have hset:setI d=-1:=by
     unfold setI at hr ⊢
     split at hr
     ·have:=HA.out.2 k d HDK.out
      have hx:=(effD_ok HA.out.1 this).xy
      omega
     ·rename_i hne
      rw [if_neg hne]
    rw [hz] at e4
    go_wp2_with fail
    go_ret
    exact ⟨by rw [hset];rfl,by first | exact hb' | exact hb'.drew⟩
   ·obtain ⟨j,hj⟩:∃ j:Nat,setI d=(j:Int):=⟨(setI d).toNat,by omega⟩
    have hj6:j<6:=by omega
    rw [hj] at hz
    rw [show ((j:Int)).toNat=j from by simp] at hz
    rw [hz] at e4
    have hp0:2 ^ j≠0:=by have:=Nat.one_le_two_pow (n:=j);omega
    have hp:2 ^ j<18446744073709551616:=Nat.pow_lt_pow_right (by decide) (by omega:j<64) (n:=64)
    have hlow:=lowest_any (2 ^ j) hp hp0 w2 (tab_below hTab hg hb')
    rw [ctz_one hj6] at hlow
    generalize 2 ^ j=pj at *
    have hne:((pj:Int)==0)=false:=by rw [beq_eq_false_iff_ne];omega
    go_wp2_with fail
    refine hlow.mono ?_
    rintro E w3 ⟨rfl,hw3⟩
    subst hw3
    clear hlow
    go_wp2_with fail
    go_ret
    exact ⟨by rw [hj];rfl,by first | exact hb' | exact hb'.drew⟩
  ·have hr:a<0∨((progPts s).length:Int)≤a:=by
    by_cases h0:a<0
    ·exact .inl h0
    ·rcases Int.lt_or_le a ((progPts s).length:Int) with h1 | h1
     ·exact absurd ⟨by omega,h1⟩ hin
     ·exact .inr h1
   rw [setByI_no (fun h=>hin h.2)]
   generalize progPts s=ds at hS hr hA
   clear hz0 hok hin hA hT hR
   go_enter Tryz.func21,Tryz.ntmps21
   go_wp2_with fail
   refine hS.mono ?_
   rintro E w1 ⟨C,F,hi,A2,c2,ah,bk,rfl,hF,hfl,hb1⟩
   rw [HZ.out] at hF hb1
   have hb:Below w.heap.size w w1:=hb0.trans (hb1.mono (by omega))
   have hbz:=hb.size
   have hgc:=hfl.grCell
   have hhas:=has_no C a ds w1 hfl.gr hr
   clear hfl hb1 hS hr
   go_wp2_with fail
   refine hhas.mono ?_
   rintro E w2 ⟨rfl,hb2⟩
   have hb':=hb.trans (hb2.mono hbz)
   clear hhas hb2
   go_wp2_with fail
   go_ret
   exact ⟨rfl,by first | exact hb' | exact hb'.drew⟩
def useOfI (ok:Bool) (ts:List Int) (s:Sts) (a v:Int):Int:=if ok=true∧0≤a∧a<((progPts s).length:Int)∧0≤v∧v<(ts.length:Int) then (((progPts s)[a.toNat]?).map fun d=>useI ts d v).getD 0 else 0
theorem useOfI_no {ok:Bool} {ts:List Int} {s:Sts} {a v:Int} (h:¬ (ok=true∧0≤a∧a<((progPts s).length:Int)∧0≤v∧v<(ts.length:Int))):useOfI ok ts s a v=0:=if_neg h
theorem useOfI_yes {ts:List Int} {s:Sts} {a v:Nat} {d:Nd} (hd:(progPts s)[a]?=some d) (hv:v<ts.length):useOfI true ts s a v=useI ts d v:=by
 have ha:=(List.getElem?_eq_some_iff.mp hd).1
 unfold useOfI
 rw [if_pos ⟨rfl,by omega,by omega,by omega,by omega⟩]
 simp [hd]
theorem typesB_len {ts:List Int} (h:typesB ts=true):ts.length≤6:=by
 simp only [typesB,Bool.and_eq_true,decide_eq_true_eq] at h
 exact h.2
theorem typesB_ne {ts:List Int} (h:typesB ts=true) {u:Nat} (hu:u<ts.length):tyAt ts (u:Int)≠0:=by
 have:=typesB_elem h (List.getElem?_eq_getElem hu)
 unfold tyAt
 rw [if_neg (by omega)]
 simp only [Int.toNat_natCast]
 rw [List.getD_eq_getElem?_getD,List.getElem?_eq_getElem hu]
 simp only [Option.getD_some]
 omega
set_option maxRecDepth 100000 in
set_option maxHeartbeats 4000000 in
theorem implUseOf_any (ts:List Int) (s:Sts) (At As:Option Addr) (ct cs:Nat) (a v:Int) (w:World) (hT:IntsV w 0 w.heap.size ts At ct) (hR:RepV w 0 w.heap.size s As cs) :
  Calls Tryz.prog 20 #[.agg #[.slice At ts.length ct,.slice As s.len cs],.int .i64 a,.int .i64 v] w fun E w'=>E=.returned (.int .i64 (useOfI (validB ts s) ts s a v))∧Below w.heap.size w w':=by
 have hb0:=(Below.refl w.heap.size w).alloc (Nat.le_refl _) (.cells #[.slice At ts.length ct,.slice As s.len cs] 26)
 have hz0:(w.alloc (.cells #[.slice At ts.length ct,.slice As s.len cs] 26)).heap.size=w.heap.size+1:=by simp
 have HZ:=Lib.hid hz0
 cases hok:validB ts s
 ·have hS:=flowsOf_no ts s At As ct cs _ hok (hT.below hb0 (by simp)) (hR.below hb0 (by simp))
  rw [useOfI_no (fun h=>by cases h.1)]
  clear hz0 hok
  go_enter Tryz.func20,Tryz.ntmps20
  go_wp2_with fail
  refine hS.mono ?_
  rintro E w1 ⟨rfl,hb1⟩
  rw [HZ.out] at hb1
  have hb:Below w.heap.size w w1:=hb0.trans (hb1.mono (by omega))
  clear hb1 hS
  go_wp2_with fail
  go_ret
  exact ⟨rfl,by first | exact hb | exact hb.drew⟩
 ·have hS:=flowsOf_yes ts s At As ct cs _ hok (hT.below hb0 (by simp)) (hR.below hb0 (by simp))
  have hA:=progPts_allTyped hok
  by_cases hin:0≤a∧a<((progPts s).length:Int)
  ·obtain ⟨h0,h1⟩:=hin
   obtain ⟨k,rfl⟩:∃ k:Nat,a=(k:Int):=⟨a.toNat,by omega⟩
   obtain ⟨d,hd⟩:∃ d,(progPts s)[k]?=some d:=⟨(progPts s)[k],List.getElem?_eq_getElem (by omega)⟩
   have hef:=effD_ok hA.1 (hA.2 k d hd)
   have hu0:useOfI true ts s (k:Int) v=if 0≤v∧v<(ts.length:Int) then useI ts d v else 0:=by
    by_cases hv:0≤v∧v<(ts.length:Int)
    ·obtain ⟨u,rfl⟩:∃ u:Nat,v=(u:Int):=⟨v.toNat,by omega⟩
     rw [if_pos hv,useOfI_yes hd (by omega)]
    ·rw [if_neg hv,useOfI_no (fun h=>hv h.2.2.2)]
   rw [hu0]
   obtain ⟨X,hX⟩:∃ X,(if 0≤v∧v<(ts.length:Int) then useI ts d v else 0)=X:=⟨_,rfl⟩
   rw [hX]
   have HX:=Lib.hid hX
   have hty:typesB ts=true:=(valid_ok hok).1
   generalize progPts s=ds at hS hd h1 hA
   have HDK:=Lib.hid hd
   have hkl:k<ds.length:=by omega
   have HEF:=Lib.hid hef
   clear hz0 hd hok hef hA hT hR hu0
   go_enter Tryz.func20,Tryz.ntmps20
   go_wp2_with fail
   refine hS.mono ?_
   rintro E w1 ⟨C,F,hi,A2,c2,ah,bk,rfl,hF,hfl,hb1⟩
   rw [HZ.out] at hF hb1
   have hb:Below w.heap.size w w1:=hb0.trans (hb1.mono (by omega))
   have hbz:=hb.size
   have hgc:=hfl.grCell
   have hhas:=has_yes C k ds w1 hfl.gr hkl
   have HFL:=Lib.hid hfl
   have hk61:k<61:=by have:=hfl.gr.le;omega
   clear hfl hb1 hS
   go_wp2_with fail
   refine hhas.mono ?_
   rintro E w2 ⟨rfl,hb2⟩
   have HF2:=Lib.hid (HFL.out.keep hb2)
   have hb':=hb.trans (hb2.mono hbz)
   have hbz':=hb'.size
   have hsc:=HF2.out.scCell
   have hto:=typeOf_any ts A2 c2 v w2 HF2.out.scope
   clear hhas hb2 hgc
   go_wp2_with fail
   refine hto.mono ?_
   rintro E w3 ⟨rfl,rfl⟩
   have hbF:=hb'
   clear hto
   by_cases hv:0≤v∧v<(ts.length:Int)
   ·obtain ⟨u,rfl⟩:∃ u:Nat,v=(u:Int):=⟨v.toNat,by omega⟩
    have hul:u<ts.length:=by omega
    have hu6:u<64:=by
     have:=typesB_len hty
     omega
    have hty0:(tyAt ts (u:Int)==0)=false:=by
     have:=typesB_ne hty hul
     simpa using this
    obtain ⟨e1,e2,e3,e4⟩:=HF2.out.effCell HDK.out
    have ki0:(0:Int)≤(k:Int):=by omega
    have ki1:(k:Int)<61:=by omega
    have hR:=bitHas_any (effD ts d).r u (by have:=HEF.out.rlt;omega) hu6
    have hTk:=bitHas_any (effD ts d).t u (by have:=HEF.out.tlt;omega) hu6
    have hC:=bitHas_any (effD ts d).c u (by have:=HEF.out.clt;omega) hu6
    have br:=HEF.out.reads u hu6
    have bt:=HEF.out.takes u hu6
    have bc:=HEF.out.reach u hu6
    have HV:=Lib.hid hv
    clear hv hsc
    rcases useI_range ts d (u:Int) with hu | hu | hu | hu
    ·have xr:(effD ts d).r.testBit u=false:=by cases h9:(effD ts d).r.testBit u;rfl;have:=br.mp h9;omega
     have xt:(effD ts d).t.testBit u=false:=by cases h9:(effD ts d).t.testBit u;rfl;have:=bt.mp h9;omega
     have xc:(effD ts d).c.testBit u=false:=by cases h9:(effD ts d).c.testBit u;rfl;have:=bc.mp h9;omega
     rw [xr] at hR
     rw [xt] at hTk
     rw [xc] at hC
     have HU:Hid (useI ts d (u:Int)=0):=hu
     clear hu br bt bc
     go_wp2_with fail
     refine (hR _).mono ?_
     rintro E w4 ⟨rfl,hw4⟩
     subst hw4
     go_wp2_with fail
     refine (hTk _).mono ?_
     rintro E w4 ⟨rfl,hw4⟩
     subst hw4
     go_wp2_with fail
     refine (hC _).mono ?_
     rintro E w4 ⟨rfl,hw4⟩
     subst hw4
     go_wp2_with fail
     go_ret
     exact ⟨by rw [← HX.out,if_pos HV.out,HU.out];rfl,by first | exact hbF | exact hbF.drew | exact hbF.alloc hbz' _ | exact (hbF.alloc hbz' _).drew⟩
    ·have xr:(effD ts d).r.testBit u=true:=br.mpr hu
     rw [xr] at hR
     have HU:Hid (useI ts d (u:Int)=1):=hu
     clear hu br bt bc
     go_wp2_with fail
     refine (hR _).mono ?_
     rintro E w4 ⟨rfl,hw4⟩
     subst hw4
     go_wp2_with fail
     go_ret
     exact ⟨by rw [← HX.out,if_pos HV.out,HU.out];rfl,by first | exact hbF | exact hbF.drew | exact hbF.alloc hbz' _ | exact (hbF.alloc hbz' _).drew⟩
    ·have xr:(effD ts d).r.testBit u=false:=by cases h9:(effD ts d).r.testBit u;rfl;have:=br.mp h9;omega
     have xt:(effD ts d).t.testBit u=true:=bt.mpr hu
     rw [xr] at hR
     rw [xt] at hTk
     have HU:Hid (useI ts d (u:Int)=2):=hu
     clear hu br bt bc
     go_wp2_with fail
     refine (hR _).mono ?_
     rintro E w4 ⟨rfl,hw4⟩
     subst hw4
     go_wp2_with fail
     refine (hTk _).mono ?_
     rintro E w4 ⟨rfl,hw4⟩
     subst hw4
     go_wp2_with fail
     go_ret
     exact ⟨by rw [← HX.out,if_pos HV.out,HU.out];rfl,by first | exact hbF | exact hbF.drew | exact hbF.alloc hbz' _ | exact (hbF.alloc hbz' _).drew⟩
    ·have xr:(effD ts d).r.testBit u=false:=by cases h9:(effD ts d).r.testBit u;rfl;have:=br.mp h9;omega
     have xt:(effD ts d).t.testBit u=false:=by cases h9:(effD ts d).t.testBit u;rfl;have:=bt.mp h9;omega
     have xc:(effD ts d).c.testBit u=true:=bc.mpr hu
     rw [xr] at hR
     rw [xt] at hTk
     rw [xc] at hC
     have HU:Hid (useI ts d (u:Int)=3):=hu
     clear hu br bt bc
     go_wp2_with fail
     refine (hR _).mono ?_
     rintro E w4 ⟨rfl,hw4⟩
     subst hw4
     go_wp2_with fail
     refine (hTk _).mono ?_
     rintro E w4 ⟨rfl,hw4⟩
     subst hw4
     go_wp2_with fail
     refine (hC _).mono ?_
     rintro E w4 ⟨rfl,hw4⟩
     subst hw4
     go_wp2_with fail
     go_ret
     exact ⟨by rw [← HX.out,if_pos HV.out,HU.out];rfl,by first | exact hbF | exact hbF.drew | exact hbF.alloc hbz' _ | exact (hbF.alloc hbz' _).drew⟩
   ·have h0:tyAt ts v=0:=by
     cases Classical.em (tyAt ts v=0) with
     | inl h=>exact h
     | inr h=>exact absurd (tyAt_lt h) hv
    have HV:=Lib.hid hv
    rw [h0]
    clear hv h0 hsc
    go_wp2_with fail
    go_ret
    exact ⟨by rw [← HX.out,if_neg HV.out];rfl,by first | exact hbF | exact hbF.drew⟩
  ·have hr:a<0∨((progPts s).length:Int)≤a:=by
    by_cases h0:a<0
    ·exact .inl h0
    ·rcases Int.lt_or_le a ((progPts s).length:Int) with h1 | h1
     ·exact absurd ⟨by omega,h1⟩ hin
     ·exact .inr h1
   rw [useOfI_no (fun h=>hin ⟨h.2.1,h.2.2.1⟩)]
   generalize progPts s=ds at hS hr hA
   clear hz0 hok hin hA hT hR
   go_enter Tryz.func20,Tryz.ntmps20
   go_wp2_with fail
   refine hS.mono ?_
   rintro E w1 ⟨C,F,hi,A2,c2,ah,bk,rfl,hF,hfl,hb1⟩
   rw [HZ.out] at hF hb1
   have hb:Below w.heap.size w w1:=hb0.trans (hb1.mono (by omega))
   have hbz:=hb.size
   have hgc:=hfl.grCell
   have hhas:=has_no C a ds w1 hfl.gr hr
   clear hfl hb1 hS hr
   go_wp2_with fail
   refine hhas.mono ?_
   rintro E w2 ⟨rfl,hb2⟩
   have hb':=hb.trans (hb2.mono hbz)
   clear hhas hb2
   go_wp2_with fail
   go_ret
   exact ⟨rfl,by first | exact hb' | exact hb'.drew⟩
end Go.Proofs.YtdcldcffnkhegaaGreatDoor
