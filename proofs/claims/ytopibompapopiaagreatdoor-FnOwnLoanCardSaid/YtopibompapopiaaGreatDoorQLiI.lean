/- LoansIn of the program. -/
import Derived.Test.YtopibompapopiaaGreatDoorQLpI
import Derived.Test.YtopibompapopiaaGreatDoorQKinds
namespace Go.Proofs.YtopibompapopiaaGreatDoor
open Go.RowKit Go.Deep
set_option linter.unusedVariables false
theorem typesB_len6 {ts:List Int} (h:typesB ts=true):ts.length≤6:=by
 simp only [typesB,Bool.and_eq_true,decide_eq_true_eq] at h
 exact h.2
theorem typesB_ne6 {ts:List Int} (h:typesB ts=true) {u:Nat} (hu:u<ts.length):tyAt ts (u:Int)≠0:=by
 have:=typesB_elem h (List.getElem?_eq_getElem hu)
 unfold tyAt
 rw [if_neg (by omega)]
 simp only [Int.toNat_natCast]
 rw [List.getD_eq_getElem?_getD,List.getElem?_eq_getElem hu]
 simp only [Option.getD_some]
 omega
set_option maxRecDepth 100000 in
set_option maxHeartbeats 4000000 in
theorem implLoansIn_any (ts:List Int) (s:Sts) (At As:Option Addr) (ct cs:Nat) (a v:Int) (w:World) (hT:IntsV w 0 w.heap.size ts At ct) (hR:RepV w 0 w.heap.size s As cs) (hTab:TabAt 0 Lib.deBruijn64tab w) (hg:0<w.heap.size) :
  Calls Tryz.prog 20 #[.agg #[.slice At ts.length ct,.slice As s.len cs],.int .i64 a,.int .i64 v] w fun E w'=>∃ v' l,E=.returned v'∧RowI w' w.heap.size v' l∧AnsAt (LoIn ts v) (validB ts s) s a l∧Below w.heap.size w w':=by
 have hb0:=(Below.refl w.heap.size w).alloc (Nat.le_refl _) (.cells #[.slice At ts.length ct,.slice As s.len cs] 26)
 have hz0:(w.alloc (.cells #[.slice At ts.length ct,.slice As s.len cs] 26)).heap.size=w.heap.size+1:=by simp
 have HZ:=Lib.hid hz0
 have hnil:∀ W:World,RowI W w.heap.size (.slice none 0 0) []:=fun W=>World.ownsRow_nil W w.heap.size 3 1
 cases hok:validB ts s
 ·have hS:=lendingOf_no ts s At As ct cs _ hok (hT.below hb0 (by simp)) (hR.below hb0 (by simp))
  clear hz0 hok
  go_enter Tryz.func20,Tryz.ntmps20
  go_wp2_with fail
  refine hS.mono ?_
  rintro E w1 ⟨rfl,hb1⟩
  rw [HZ.out] at hb1
  have hb:Below w.heap.size w w1:=hb0.trans (hb1.mono (by omega))
  clear hb1 hS
  go_wp2_with fail
  go_ret
  exact ⟨_,[],rfl,hnil _,.inr ⟨fun h=>(by cases h.1),rfl⟩,by first | exact hb | exact hb.drew⟩
 ·have hS:=lendingOf_yes ts s At As ct cs _ hok (hT.below hb0 (by simp)) (hR.below hb0 (by simp)) (tab_below hTab hg hb0) (by rw [hz0];omega)
  have hA:=progPts_allTyped hok
  have hD:=progPts_ok s (valid_ok hok).2.1
  have hL:=progPts_leads hok
  by_cases hin:0≤a∧a<((progPts s).length:Int)
  ·obtain ⟨h0,h1⟩:=hin
   obtain ⟨k,rfl⟩:∃ k:Nat,a=(k:Int):=⟨a.toNat,by omega⟩
   have hans:∀ l,IsPathsB (LoIn ts v (progPts s) k) l→AnsAt (LoIn ts v) true s (k:Int) l:=fun l hl=>.inl ⟨rfl,h0,h1,by simpa using hl⟩
   have hty:typesB ts=true:=(valid_ok hok).1
   generalize progPts s=ds at hS h1 hA hD hL hans
   generalize s.npts=q at hD
   have hkl:k<ds.length:=by omega
   have HD:=Lib.hid hD
   have HA:=Lib.hid hA
   have HL:=Lib.hid hL
   have HANS:=Lib.hid hans
   clear hz0 hok hA hD hL hT hR hans
   go_enter Tryz.func20,Tryz.ntmps20
   go_wp2_with fail
   refine hS.mono ?_
   rintro E w1 ⟨C,F,hi,A2,c2,ah,bk,L,mb,lv,kn,rfl,hl,hLb,hb1⟩
   rw [HZ.out] at hLb hb1
   have hb:Below w.heap.size w w1:=hb0.trans (hb1.mono (by omega))
   have hbz:=hb.size
   have hfc:=hl.ln.flCell
   have hgc:=hl.ln.fl.grCell
   have hhas:=has_yes C k ds w1 hl.ln.fl.gr hkl
   have HLN:=Lib.hid hl
   have hk61:k<61:=by have:=hl.ln.fl.gr.le;omega
   clear hl hb1 hS
   go_wp2_with fail
   refine hhas.mono ?_
   rintro E w2 ⟨rfl,hb2⟩
   have HL2:=Lib.hid (HLN.out.keep hb2)
   have HB2:=Lib.hid (hb.trans (hb2.mono hbz))
   have hbz':=HB2.out.size
   have hfc2:=HL2.out.ln.flCell
   have hsc:=HL2.out.ln.fl.scCell
   have hto:=typeOf_any ts A2 c2 v w2 HL2.out.ln.fl.scope
   clear hhas hb2 hgc hfc hb
   go_wp2_with fail
   refine hto.mono ?_
   rintro E w3 ⟨rfl,hw3⟩
   rw [← hw3]
   clear hto hw3 w3 hsc hfc2
   by_cases hv:0≤v∧v<(ts.length:Int)
   ·obtain ⟨u,rfl⟩:∃ u:Nat,v=(u:Int):=⟨v.toNat,by omega⟩
    have hul:u<ts.length:=by omega
    have hu6:u<6:=by
     have:=typesB_len6 hty
     omega
    have hty0:(tyAt ts (u:Int)==0)=false:=by
     have:=typesB_ne6 hty hul
     simpa using this
    obtain ⟨z,hz⟩:∃ z,z=kn k u:=⟨_,rfl⟩
    have hq:=HL2.out.cell hk61 (v:=u) (by omega)
    rw [← hz] at hq
    have hz64:z<18446744073709551616:=by rw [hz];have:=HL2.out.lt k u;omega
    have hzr:∀ l,(l<64∧z.testBit l=true)↔LoIn ts (u:Int) ds k l:=fun l=>by
     rw [hz,HL2.out.bit hkl (by omega)]
     unfold LoIn
     rw [Int.toNat_natCast]
     exact ⟨fun h=>⟨by omega,by omega,h.2⟩,fun h=>⟨by have:=(LoanB.dom HA.out h.2.2).2;have:=HL2.out.ln.fl.gr.le;omega,h.2.2⟩⟩
    have HZR:=Lib.hid hzr
    have ki0:(0:Int)≤(k:Int):=by omega
    have ki1:(k:Int)<61:=by omega
    have ui0:(0:Int)≤(u:Int):=by omega
    have ui1:(u:Int)<6:=by omega
    have hls:=setList_any z hz64 w2 (tab_below hTab hg HB2.out) (by omega)
    have HTY:=Lib.hid hty
    clear hz hzr hv hty
    go_wp2_with fail
    refine hls.mono ?_
    rintro E w5 ⟨v',rfl,hrow,hb5⟩
    have HROW:=Lib.hid (hrow.mono hbz')
    have HB5:=Lib.hid (HB2.out.trans (hb5.mono hbz'))
    clear hls hrow hb5
    go_wp2_with fail
    go_ret
    refine ⟨v',intsOf z,rfl,HROW.out,HANS.out _ ⟨fun j=>z.testBit j,by unfold intsOf;rw [bitsOf_filter],fun l=>?_⟩,HB5.out⟩
    exact HZR.out l
   ·have hty0:(tyAt ts v==0)=true:=by
     have:tyAt ts v=0:=Classical.byContradiction fun h9=>hv (tyAt_lt h9)
     simp [this]
    have hnone:∀ l,¬ LoIn ts v ds k l:=fun l h=>by
     have h9:=LoanB.dom HA.out h.2.2
     rcases h9.1 with h8 | h8
     ·exact hv ⟨h.1,by have:=h.1;omega⟩
     ·have:=h.2.1
      have:=h.1
      omega
    have hemp:IsPathsB (LoIn ts v ds k) []:=⟨fun _=>false,by simp,fun x=>by simp [hnone x]⟩
    have HEMP:=Lib.hid (HANS.out _ hemp)
    clear hv hnone hemp
    go_wp2_with fail
    go_ret
    exact ⟨_,[],rfl,hnil _,HEMP.out,HB2.out⟩
  ·have hr:a<0∨((progPts s).length:Int)≤a:=by
    by_cases h0:a<0
    ·exact .inl h0
    ·rcases Int.lt_or_le a ((progPts s).length:Int) with h1 | h1
     ·exact absurd ⟨by omega,h1⟩ hin
     ·exact .inr h1
   have hans:AnsAt (LoIn ts v) true s a []:=.inr ⟨fun h=>hin h.2,rfl⟩
   have HANS:=Lib.hid hans
   generalize progPts s=ds at hS hr hA
   clear hz0 hok hin hA hT hR hans hD hL
   go_enter Tryz.func20,Tryz.ntmps20
   go_wp2_with fail
   refine hS.mono ?_
   rintro E w1 ⟨C,F,hi,A2,c2,ah,bk,L,mb,lv,kn,rfl,hl,hLb,hb1⟩
   rw [HZ.out] at hLb hb1
   have hb:Below w.heap.size w w1:=hb0.trans (hb1.mono (by omega))
   have hbz:=hb.size
   have hfc:=hl.ln.flCell
   have hgc:=hl.ln.fl.grCell
   have hhas:=has_no C a ds w1 hl.ln.fl.gr hr
   clear hl hb1 hS hr
   go_wp2_with fail
   refine hhas.mono ?_
   rintro E w2 ⟨rfl,hb2⟩
   have hb':=hb.trans (hb2.mono hbz)
   clear hhas hb2
   go_wp2_with fail
   go_ret
   exact ⟨_,[],rfl,hnil _,HANS.out,by first | exact hb' | exact hb'.drew⟩
end Go.Proofs.YtopibompapopiaaGreatDoor
