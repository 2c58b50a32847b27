/- impl.LiveAfter: the sets at a point,listed. -/
import Derived.Test.YtdcldcffnkhegaaGreatDoorQFloG
namespace Go.Proofs.YtdcldcffnkhegaaGreatDoor.flowLive
open Go.RowKit Go.Deep
set_option linter.unusedVariables false
set_option maxRecDepth 100000 in
set_option maxHeartbeats 4000000 in
theorem varsAt_any (ts:List Int) (s:Sts) (At As:Option Addr) (ct cs:Nat) (a:Int) (w:World) (hT:IntsV w 0 w.heap.size ts At ct) (hR:RepV w 0 w.heap.size s As cs)
  (hTab:TabAt 0 Lib.deBruijn64tab w) (hg:0<w.heap.size) :
  Calls Tryz.prog 60 #[.agg #[.slice At ts.length ct,.slice As s.len cs],.int .i64 a,.func (.func 67) #[] #[]] w fun E w'=>∃ v l,E=.returned v∧RowI w' w.heap.size v l∧AnsAt (Rel ts) (validB ts s) s a l∧Below w.heap.size w w':=by
 have hb0:=(Below.refl w.heap.size w).alloc (Nat.le_refl _) (.cells #[.slice At ts.length ct,.slice As s.len cs] 26)
 have hz0:(w.alloc (.cells #[.slice At ts.length ct,.slice As s.len cs] 26)).heap.size=w.heap.size+1:=by simp
 have HZ:=Lib.hid hz0
 have hnil:∀ W:World,RowI W w.heap.size (.slice none 0 0) []:=fun W=>World.ownsRow_nil W w.heap.size 3 1
 cases hok:validB ts s
 ·have hS:=flowsOf_no ts s At As ct cs _ hok (hT.below hb0 (by simp)) (hR.below hb0 (by simp))
  clear hz0 hok
  go_enter Tryz.func60,Tryz.ntmps60
  go_wp2_with fail
  refine hS.mono ?_
  rintro E w1 ⟨rfl,hb1⟩
  rw [HZ.out] at hb1
  have hb:Below w.heap.size w w1:=hb0.trans (hb1.mono (by omega))
  clear hb1 hS
  go_wp2_with fail
  go_ret
  exact ⟨_,[],rfl,hnil _,.inr ⟨fun h=>(by cases h.1),rfl⟩,by first | exact hb | exact hb.drew⟩
 ·have hS:=flowsOf_yes ts s At As ct cs _ hok (hT.below hb0 (by simp)) (hR.below hb0 (by simp))
  have hA:=progPts_allTyped hok
  have hD:=progPts_ok s (valid_ok hok).2.1
  have hL:=progPts_leads hok
  by_cases hin:0≤a∧a<((progPts s).length:Int)
  ·obtain ⟨h0,h1⟩:=hin
   obtain ⟨k,rfl⟩:∃ k:Nat,a=(k:Int):=⟨a.toNat,by omega⟩
   have hans:∀ l,IsPathsB (Rel ts (progPts s) k) l→AnsAt (Rel ts) true s (k:Int) l:=fun l hl=>.inl ⟨rfl,h0,h1,by simpa using hl⟩
   generalize progPts s=ds at hS h1 hA hD hL hans
   generalize s.npts=q at hD
   have hkl:k<ds.length:=by omega
   have HD:=Lib.hid hD
   have HA:=Lib.hid hA
   have HL:=Lib.hid hL
   have HANS:=Lib.hid hans
   clear hz0 hok hA hD hL hT hR hans
   go_enter Tryz.func60,Tryz.ntmps60
   go_wp2_with fail
   refine hS.mono ?_
   rintro E w1 ⟨C,F,hi,A2,c2,ah,bk,rfl,hF,hfl,hb1⟩
   rw [HZ.out] at hF hb1
   have hb:Below w.heap.size w w1:=hb0.trans (hb1.mono (by omega))
   have hbz:=hb.size
   have hgc:=hfl.grCell
   have hhas:=has_yes C k ds w1 hfl.gr hkl
   have HFL:=Lib.hid hfl
   have hk61:k<61:=by have:=hfl.gr.le;omega
   clear hfl hb1 hS
   go_wp2_with fail
   refine hhas.mono ?_
   rintro E w2 ⟨rfl,hb2⟩
   have HF2:=Lib.hid (HFL.out.keep hb2)
   have hb':=hb.trans (hb2.mono hbz)
   have hbz':=hb'.size
   have han:=analysis_any ts ds q C F hi A2 c2 ah bk w2 HF2.out HD.out HA.out (tab_below hTab hg hb') (by omega)
   clear hhas hb2 hgc
   go_wp2_with fail
   refine han.mono ?_
   rintro E w3 ⟨xs,kn,rfl,hxz,hxc,hflo,hb3⟩
   have hb'':=hb'.trans (hb3.mono hbz')
   have HFLO:=Lib.hid hflo
   have hxk:=hxc k hk61
   have hlist:=fun W hT hG=>setList_any (kn k) (by have:=hflo.lt k;omega) W hT hG
   obtain ⟨W4,s1,hb4,hk4,hz4⟩:=lay_known w3 xs kn hxz hxc
   unfold noSets at s1
   have hb4':=hb''.trans (hb4.mono hb''.size)
   have hz4':=hb4'.size
   have ck:=hk4.cell hk61
   have hls:=hlist W4 (tab_below hTab hg hb4') (by omega)
   have HB4:=Lib.hid hb4'
   clear han hb3 hflo hlist hxk hb4 hk4 hxc hb4'
   have ki0:(0:Int)≤(k:Int):=by omega
   have ki1:(k:Int)<61:=by omega
   go_wp2_with fail
   refine hls.mono ?_
   rintro E w5 ⟨v,rfl,hrow,hb5⟩
   have HROW:=Lib.hid (hrow.mono hz4')
   have HB5:=Lib.hid (HB4.out.trans (hb5.mono hz4'))
   clear hls hrow hb5
   go_wp2_with fail
   go_ret
   refine ⟨v,intsOf (kn k),rfl,HROW.out,HANS.out _ ⟨fun j=>(kn k).testBit j,by unfold intsOf;rw [bitsOf_filter],fun v=>?_⟩,HB5.out⟩
   exact rel_bit HFLO.out HD.out HA.out HL.out hk61 hkl v
  ·have hr:a<0∨((progPts s).length:Int)≤a:=by
    by_cases h0:a<0
    ·exact .inl h0
    ·rcases Int.lt_or_le a ((progPts s).length:Int) with h1 | h1
     ·exact absurd ⟨by omega,h1⟩ hin
     ·exact .inr h1
   have hans:AnsAt (Rel ts) true s a []:=.inr ⟨fun h=>hin h.2,rfl⟩
   have HANS:=Lib.hid hans
   generalize progPts s=ds at hS hr hA
   clear hz0 hok hin hA hT hR hans hD hL
   go_enter Tryz.func60,Tryz.ntmps60
   go_wp2_with fail
   refine hS.mono ?_
   rintro E w1 ⟨C,F,hi,A2,c2,ah,bk,rfl,hF,hfl,hb1⟩
   rw [HZ.out] at hF hb1
   have hb:Below w.heap.size w w1:=hb0.trans (hb1.mono (by omega))
   have hbz:=hb.size
   have hgc:=hfl.grCell
   have hhas:=has_no C a ds w1 hfl.gr hr
   clear hfl hb1 hS hr
   go_wp2_with fail
   refine hhas.mono ?_
   rintro E w2 ⟨rfl,hb2⟩
   have hb':=hb.trans (hb2.mono hbz)
   clear hhas hb2
   go_wp2_with fail
   go_ret
   exact ⟨_,[],rfl,hnil _,HANS.out,by first | exact hb' | exact hb'.drew⟩
set_option maxHeartbeats 1000000 in
theorem implLiveAfter_any (ts:List Int) (s:Sts) (At As:Option Addr) (ct cs:Nat) (a:Int) (w:World) (hT:IntsV w 0 w.heap.size ts At ct) (hR:RepV w 0 w.heap.size s As cs)
  (hTab:TabAt 0 Lib.deBruijn64tab w) (hg:0<w.heap.size) :
  Calls Tryz.prog 33 #[.agg #[.slice At ts.length ct,.slice As s.len cs],.int .i64 a] w fun E w'=>∃ v l,E=.returned v∧RowI w' w.heap.size v l∧AnsAt (Rel ts) (validB ts s) s a l∧Below w.heap.size w w':=by
 have hb0:=(Below.refl w.heap.size w).alloc (Nat.le_refl _) (.cells #[.slice At ts.length ct,.slice As s.len cs] 26)
 have hz0:(w.alloc (.cells #[.slice At ts.length ct,.slice As s.len cs] 26)).heap.size=w.heap.size+1:=by simp
 have hv:=varsAt_any ts s At As ct cs a _ (hT.below hb0 (by simp)) (hR.below hb0 (by simp)) (tab_below hTab hg hb0) (by rw [hz0];omega)
 have HZ:=Lib.hid hz0
 clear hz0 hT hR
 go_enter Tryz.func33,Tryz.ntmps33
 go_wp2_with fail
 refine hv.mono ?_
 rintro E w1 ⟨v,l,rfl,hrow,hans,hb1⟩
 rw [HZ.out] at hrow hb1
 have HR1:=Lib.hid (hrow.mono (by omega:w.heap.size≤w.heap.size+1))
 have HA1:=Lib.hid hans
 have hb:Below w.heap.size w w1:=hb0.trans (hb1.mono (by omega))
 clear hv hrow hans hb1
 go_wp2_with fail
 go_ret
 exact ⟨v,l,rfl,HR1.out,HA1.out,hb⟩
end Go.Proofs.YtdcldcffnkhegaaGreatDoor.flowLive
