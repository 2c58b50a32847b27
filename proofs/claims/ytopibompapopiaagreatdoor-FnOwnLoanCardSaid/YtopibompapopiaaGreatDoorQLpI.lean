/- What is known of loans at a point,by the program: what is placed,what can be used. -/
import Derived.Test.YtopibompapopiaaGreatDoorQLimB
import Derived.Test.YtopibompapopiaaGreatDoorQLplG
import Derived.Test.YtopibompapopiaaGreatDoorQGrX
namespace Go.Proofs.YtopibompapopiaaGreatDoor
open Go.RowKit Go.Deep
set_option linter.unusedVariables false
section
variable {ts:List Int} {ns:List Nd} {C F hi:Nat} {A:Option Addr} {c:Nat} {ah bk:Nat→Nat} {L:Nat} {mb lv:Nat→Nat} {kn:Nat→Nat→Nat} {a b:World}
theorem Lend.keep (h:Lend ts ns C F hi A c ah bk L mb lv kn a) (hb:Below a.heap.size a b):Lend ts ns C F hi A c ah bk L mb lv kn b:=by
 refine ⟨h.ln.keep hb,?_,h.mbIn,h.lvIn,h.knIn⟩
 rw [hb.block L h.ln.ltW]
 exact h.row
theorem Lend.cell (h:Lend ts ns C F hi A c ah bk L mb lv kn a) {m v:Nat} (hm:m<61) (hv:v<7):a.cell? ⟨L,131+m*7+v,none⟩=some (.int .u64 (kn m v:Int)):=by
 obtain ⟨cs,h1,h2,h3⟩:=h.row
 rw [cB h1,show 131+m*7+v=131+(m*7+v) from by omega]
 exact h3 m hm v hv
theorem Lend.bit (h:Lend ts ns C F hi A c ah bk L mb lv kn a) {m v l:Nat} (hm:m<ns.length) (hv:v<7):(kn m v).testBit l=true↔LoanB ts ns m v l :=
 h.knIn.last (fun _=>id) (fun a b hab=>by
  have hab':b∈nextN ns a:=hab
  rcases Nat.lt_or_ge a ns.length with h9 | h9
  ·exact h9
  ·exfalso
   unfold nextN nextP at hab'
   rw [List.getElem?_eq_none h9] at hab'
   simp at hab') (genL_place ns) (handL_place ts ns) hm hv
theorem Lend.lt (h:Lend ts ns C F hi A c ah bk L mb lv kn a) (m v:Nat):kn m v<2305843009213693952:=h.knIn.lt m v
end
set_option maxHeartbeats 1000000 in
theorem placed_any (ts:List Int) (ns:List Nd) (C F hi:Nat) (A:Option Addr) (c:Nat) (ah bk:Nat→Nat) (L:Nat) (mb lv:Nat→Nat) (kn:Nat→Nat→Nat) (k:Nat) (w:World) (h:Lend ts ns C F hi A c ah bk L mb lv kn w) (hk:k<ns.length) :
  Calls Tryz.prog 62 #[.pointer (some ⟨L,0,none⟩),.int .i64 k] w fun E w'=>E=.returned (.int .u64 (kn k 6:Int))∧Below w.heap.size w w':=by
 have hk61:k<61:=by have:=h.ln.fl.gr.le;omega
 have ki0:(0:Int)≤(k:Int):=by omega
 have ki1:(k:Int)<61:=by omega
 have q:=h.cell hk61 (v:=6) (by omega)
 clear h
 go_enter Tryz.func62,Tryz.ntmps62
 go_wp2_with fail
 go_ret
 exact ⟨rfl,by first | exact Below.refl _ _ | exact (Below.refl _ _).drew⟩
set_option maxRecDepth 100000 in
set_option maxHeartbeats 4000000 in
theorem loansAt_PlacedLoans (ts:List Int) (s:Sts) (At As:Option Addr) (ct cs:Nat) (a:Int) (w:World) (hT:IntsV w 0 w.heap.size ts At ct) (hR:RepV w 0 w.heap.size s As cs) (hTab:TabAt 0 Lib.deBruijn64tab w) (hg:0<w.heap.size) :
  Calls Tryz.prog 61 #[.agg #[.slice At ts.length ct,.slice As s.len cs],.int .i64 a,.func (.func 62) #[] #[]] w fun E w'=>∃ v l,E=.returned v∧RowI w' w.heap.size v l∧AnsAt (LoPl ts) (validB ts s) s a l∧Below w.heap.size w w':=by
 have hb0:=(Below.refl w.heap.size w).alloc (Nat.le_refl _) (.cells #[.slice At ts.length ct,.slice As s.len cs] 26)
 have hz0:(w.alloc (.cells #[.slice At ts.length ct,.slice As s.len cs] 26)).heap.size=w.heap.size+1:=by simp
 have HZ:=Lib.hid hz0
 have hnil:∀ W:World,RowI W w.heap.size (.slice none 0 0) []:=fun W=>World.ownsRow_nil W w.heap.size 3 1
 cases hok:validB ts s
 ·have hS:=lendingOf_no ts s At As ct cs _ hok (hT.below hb0 (by simp)) (hR.below hb0 (by simp))
  clear hz0 hok
  go_enter Tryz.func61,Tryz.ntmps61
  go_wp2_with fail
  refine hS.mono ?_
  rintro E w1 ⟨rfl,hb1⟩
  rw [HZ.out] at hb1
  have hb:Below w.heap.size w w1:=hb0.trans (hb1.mono (by omega))
  clear hb1 hS
  go_wp2_with fail
  go_ret
  exact ⟨_,[],rfl,hnil _,.inr ⟨fun h=>(by cases h.1),rfl⟩,by first | exact hb | exact hb.drew⟩
 ·have hS:=lendingOf_yes ts s At As ct cs _ hok (hT.below hb0 (by simp)) (hR.below hb0 (by simp)) (tab_below hTab hg hb0) (by rw [hz0];omega)
  have hA:=progPts_allTyped hok
  have hD:=progPts_ok s (valid_ok hok).2.1
  have hL:=progPts_leads hok
  by_cases hin:0≤a∧a<((progPts s).length:Int)
  ·obtain ⟨h0,h1⟩:=hin
   obtain ⟨k,rfl⟩:∃ k:Nat,a=(k:Int):=⟨a.toNat,by omega⟩
   have hans:∀ l,IsPathsB (LoPl ts (progPts s) k) l→AnsAt (LoPl ts) true s (k:Int) l:=fun l hl=>.inl ⟨rfl,h0,h1,by simpa using hl⟩
   generalize progPts s=ds at hS h1 hA hD hL hans
   generalize s.npts=q at hD
   have hkl:k<ds.length:=by omega
   have HD:=Lib.hid hD
   have HA:=Lib.hid hA
   have HL:=Lib.hid hL
   have HANS:=Lib.hid hans
   clear hz0 hok hA hD hL hT hR hans
   go_enter Tryz.func61,Tryz.ntmps61
   go_wp2_with fail
   refine hS.mono ?_
   rintro E w1 ⟨C,F,hi,A2,c2,ah,bk,L,mb,lv,kn,rfl,hl,hLb,hb1⟩
   rw [HZ.out] at hLb hb1
   have hb:Below w.heap.size w w1:=hb0.trans (hb1.mono (by omega))
   have hbz:=hb.size
   have hfc:=hl.ln.flCell
   have hgc:=hl.ln.fl.grCell
   have hhas:=has_yes C k ds w1 hl.ln.fl.gr hkl
   have HLN:=Lib.hid hl
   have hk61:k<61:=by have:=hl.ln.fl.gr.le;omega
   clear hl hb1 hS
   go_wp2_with fail
   refine hhas.mono ?_
   rintro E w2 ⟨rfl,hb2⟩
   have HL2:=Lib.hid (HLN.out.keep hb2)
   have HB2:=Lib.hid (hb.trans (hb2.mono hbz))
   have hbz':=HB2.out.size
   have han:=placed_any ts ds C F hi A2 c2 ah bk L mb lv kn k w2 HL2.out hkl
   clear hhas hb2 hgc hfc hb
   go_wp2_with fail
   refine han.mono ?_
   rintro E w3 ⟨rfl,hb3⟩
   obtain ⟨z,hz⟩:∃ z,z=kn k 6:=⟨_,rfl⟩
   have hz64:z<18446744073709551616:=by have:=HL2.out.lt k 6;omega
   have hzr:∀ l,(l<64∧z.testBit l=true)↔LoPl ts ds k l:=fun l=>by
    rw [hz,HL2.out.bit hkl (by omega)]
    exact ⟨fun h=>h.2,fun h=>⟨by have:=(LoanB.dom HA.out h).2;have:=HL2.out.ln.fl.gr.le;omega,h⟩⟩
   rw [← hz]
   clear hz
   have HB3:=Lib.hid (HB2.out.trans (hb3.mono hbz'))
   have hbz3:=HB3.out.size
   have hls:=setList_any z hz64 w3 (tab_below hTab hg HB3.out) (by omega)
   have HZR:=Lib.hid hzr
   clear han hb3 hzr
   go_wp2_with fail
   refine hls.mono ?_
   rintro E w5 ⟨v,rfl,hrow,hb5⟩
   have HROW:=Lib.hid (hrow.mono hbz3)
   have HB5:=Lib.hid (HB3.out.trans (hb5.mono hbz3))
   clear hls hrow hb5
   go_wp2_with fail
   go_ret
   refine ⟨v,intsOf z,rfl,HROW.out,HANS.out _ ⟨fun j=>z.testBit j,by unfold intsOf;rw [bitsOf_filter],fun l=>?_⟩,HB5.out⟩
   exact HZR.out l
  ·have hr:a<0∨((progPts s).length:Int)≤a:=by
    by_cases h0:a<0
    ·exact .inl h0
    ·rcases Int.lt_or_le a ((progPts s).length:Int) with h1 | h1
     ·exact absurd ⟨by omega,h1⟩ hin
     ·exact .inr h1
   have hans:AnsAt (LoPl ts) true s a []:=.inr ⟨fun h=>hin h.2,rfl⟩
   have HANS:=Lib.hid hans
   generalize progPts s=ds at hS hr hA
   clear hz0 hok hin hA hT hR hans hD hL
   go_enter Tryz.func61,Tryz.ntmps61
   go_wp2_with fail
   refine hS.mono ?_
   rintro E w1 ⟨C,F,hi,A2,c2,ah,bk,L,mb,lv,kn,rfl,hl,hLb,hb1⟩
   rw [HZ.out] at hLb hb1
   have hb:Below w.heap.size w w1:=hb0.trans (hb1.mono (by omega))
   have hbz:=hb.size
   have hfc:=hl.ln.flCell
   have hgc:=hl.ln.fl.grCell
   have hhas:=has_no C a ds w1 hl.ln.fl.gr hr
   clear hl hb1 hS hr
   go_wp2_with fail
   refine hhas.mono ?_
   rintro E w2 ⟨rfl,hb2⟩
   have hb':=hb.trans (hb2.mono hbz)
   clear hhas hb2
   go_wp2_with fail
   go_ret
   exact ⟨_,[],rfl,hnil _,HANS.out,by first | exact hb' | exact hb'.drew⟩
set_option maxHeartbeats 1000000 in
theorem implPlacedLoans_any (ts:List Int) (s:Sts) (At As:Option Addr) (ct cs:Nat) (a:Int) (w:World) (hT:IntsV w 0 w.heap.size ts At ct) (hR:RepV w 0 w.heap.size s As cs) (hTab:TabAt 0 Lib.deBruijn64tab w) (hg:0<w.heap.size) :
  Calls Tryz.prog 26 #[.agg #[.slice At ts.length ct,.slice As s.len cs],.int .i64 a] w fun E w'=>∃ v l,E=.returned v∧RowI w' w.heap.size v l∧AnsAt (LoPl ts) (validB ts s) s a l∧Below w.heap.size w w':=by
 have hb0:=(Below.refl w.heap.size w).alloc (Nat.le_refl _) (.cells #[.slice At ts.length ct,.slice As s.len cs] 26)
 have hz0:(w.alloc (.cells #[.slice At ts.length ct,.slice As s.len cs] 26)).heap.size=w.heap.size+1:=by simp
 have hv:=loansAt_PlacedLoans ts s At As ct cs a _ (hT.below hb0 (by simp)) (hR.below hb0 (by simp)) (tab_below hTab hg hb0) (by rw [hz0];omega)
 have HZ:=Lib.hid hz0
 clear hz0 hT hR
 go_enter Tryz.func26,Tryz.ntmps26
 go_wp2_with fail
 refine hv.mono ?_
 rintro E w1 ⟨v,l,rfl,hrow,hans,hb1⟩
 rw [HZ.out] at hrow hb1
 have HR1:=Lib.hid (hrow.mono (by omega:w.heap.size≤w.heap.size+1))
 have HA1:=Lib.hid hans
 have hb:Below w.heap.size w w1:=hb0.trans (hb1.mono (by omega))
 clear hv hrow hans hb1
 go_wp2_with fail
 go_ret
 exact ⟨v,l,rfl,HR1.out,HA1.out,hb⟩
end Go.Proofs.YtopibompapopiaaGreatDoor
