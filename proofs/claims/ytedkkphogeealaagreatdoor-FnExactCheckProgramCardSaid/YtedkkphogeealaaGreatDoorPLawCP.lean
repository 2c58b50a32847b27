/-
  The walk of a law;its frame is in another text.
-/
import Derived.Test.YtedkkphogeealaaGreatDoorPArgs
import Derived.Test.YtedkkphogeealaaGreatDoorPLfA
import Derived.Test.YtedkkphogeealaaGreatDoorPLfB
import Derived.Test.YtedkkphogeealaaGreatDoorPMarks
import Derived.Deep.RegionHeld3
import Derived.Test.YtedkkphogeealaaGreatDoorPTab
import Derived.Test.YtedkkphogeealaaGreatDoorRows
import Derived.Test.YtedkkphogeealaaGreatDoorCards
import Derived.Test.YtedkkphogeealaaGreatDoorTie
import Derived.LaidMore
import Derived.SevenTiedAt
namespace Go.Proofs.YtedkkphogeealaaGreatDoor.fnCheckProgram
open Go.ChangeShapes Go.WideShapes Go.ChangeAt Go.RowKit Go.Deep Go.Joins
set_option linter.unusedVariables false
set_option maxRecDepth 100000
set_option maxHeartbeats 8000000
theorem issR_len {ts:List Int} {s:Sts} {l:List IsD} (h:IssR ts s l):l.length≤5000:=by
 rw [h.unique (issOf_is ts s)]
 unfold issOf
 split
 ·rename_i h1
  have h2:=(progPts_allTyped h1).1
  have h3:=issN_length (LiveB ts (progPts s)) ts (progPts s) (progPts s).length
  have h4:(progPts s).length≤61:=by
   have h8:=s.npts_le
   have h9:=valid_size h1
   rw [progPts_len]
   omega
  have h5:(progPts s).length*(ts.length+(progPts s).length)≤61*67:=Nat.mul_le_mul h4 (by omega)
  omega
 ·simp
theorem held_P {C B K:Nat} {w1 wo w':World} {b0 b1 c0 c1:Value} (hb:Below wo.heap.size wo w') (h:Below K w1 wo) (hK:K=w1.heap.size) (hC:C<w1.heap.size) (hB:B<w1.heap.size)
  (q0:w1.cell? ⟨B,0,none⟩=some b0) (q1:w1.cell? ⟨B,1,none⟩=some b1) (q2:w1.cell? ⟨C,0,none⟩=some c0) (q3:w1.cell? ⟨C,1,none⟩=some c1) :
  Below K w1 w'∧w'.cell? ⟨B,0,none⟩=some b0∧w'.cell? ⟨B,1,none⟩=some b1∧w'.cell? ⟨C,0,none⟩=some c0∧w'.cell? ⟨C,1,none⟩=some c1:=by
 subst hK
 have hbb:Below w1.heap.size w1 w':=h.trans (hb.mono h.size)
 exact ⟨hbb,(hbb.cell hB).trans q0,(hbb.cell hB).trans q1,(hbb.cell hC).trans q2,(hbb.cell hC).trans q3⟩
theorem walk (ts:List Int) (s:Sts) (At As:Option Addr) (ct cs:Nat) (W:World) (hT:IntsV W 0 W.heap.size ts At ct) (hR:RepV W 0 W.heap.size s As cs) (hTab:TabAt 0 Lib.deBruijn64tab W) (hg:0<W.heap.size) :
  Calls Tryz.prog 5 #[.agg #[.slice At ts.length ct,.slice As s.len cs]] W fun e w'=>e=.returned (.bool true)∧Below W.heap.size W w':=by
 have hTl:=hT.1
 have hTm:=hT.2.1
 have hb0:=(Below.refl W.heap.size W).alloc (Nat.le_refl _) (.cells #[.slice At ts.length ct,.slice As s.len cs] 25)
 have hz0:(W.alloc (.cells #[.slice At ts.length ct,.slice As s.len cs] 25)).heap.size=W.heap.size+1:=by simp
 have hT0:IntsV (W.alloc (.cells #[.slice At ts.length ct,.slice As s.len cs] 25)) 0 (W.alloc (.cells #[.slice At ts.length ct,.slice As s.len cs] 25)).heap.size ts At ct:=hT.below hb0 (by simp)
 have hR0:RepV (W.alloc (.cells #[.slice At ts.length ct,.slice As s.len cs] 25)) 0 (W.alloc (.cells #[.slice At ts.length ct,.slice As s.len cs] 25)).heap.size s As cs:=hR.below hb0 (by simp)
 have hB:=heap_alloc_new W (.cells #[.slice At ts.length ct,.slice As s.len cs] 25)
 have HB:=Lib.hid hB
 have HZ:=Lib.hid hz0
 clear hB hz0
 by_cases hsz:ts.length+s.size≤1048576
 ·have hsub:Hid (subI 1048576 (ts.length+s.size)=1048576-(ts.length+s.size:Nat)):=if_pos (by omega)
  go_enter Tryz.func5,Tryz.ntmps5
  go_wp2_with fail
  refine (szProgram_any ts.length ct At s As cs 1048576 _ hTl hTm hR0 (by omega) (by omega)).mono ?_
  rintro E w1 ⟨he,hb1⟩
  rw [hsub.out] at he
  subst he
  rw [HZ.out] at hb1
  have hs1:=hb1.size
  rw [HZ.out] at hs1
  have hB1:=(hb1.block W.heap.size (by omega)).trans HB.out
  have p0:w1.cell? ⟨W.heap.size,0,none⟩=some (.slice At ts.length ct):=(cB hB1 0).trans rfl
  have p1:w1.cell? ⟨W.heap.size,1,none⟩=some (.slice As s.len cs):=(cB hB1 1).trans rfl
  have hbb1:Below W.heap.size W w1:=hb0.trans (hb1.mono (by omega))
  have HB1:=Lib.hid hB1
  clear hB1 hb1 hT0 hR0
  go_wp2_with fail
  refine (toProgram_any ts s At As ct cs _ (by omega) (by omega) (hT.below hbb1 hbb1.size) (hR.below hbb1 hbb1.size)).mono ?_
  rintro E w2 ⟨g1,g2,rfl,hI2,hS2,hb2⟩
  have hs2:=hb2.size
  have HB2:=Lib.hid ((hb2.block W.heap.size (by omega)).trans HB1.out)
  have hbb2:Below W.heap.size W w2:=hbb1.trans (hb2.mono (by omega))
  clear hb2 p0 p1
  go_wp2_with fail
  refine (specCheckProgram_any ts s _ _ _ _ w2 (by omega) (hI2.keep (Nat.zero_le _) (Nat.le_refl _) fun _ _ _=>rfl) (hS2.keep (Nat.zero_le _) (Nat.le_refl _) fun _ _ _=>rfl)).mono ?_
  rintro E w3 ⟨vs,rl,rfl,hvs,hans,hb3⟩
  have HANS:=Lib.hid hans
  have hrl:=issR_len hans
  have hvso:=Lib.hid hvs.lt
  have hs3:=hb3.size
  have HVS:=Lib.hid hvs
  have hB3:=(hb3.block W.heap.size (by omega)).trans HB2.out
  have p0:w3.cell? ⟨W.heap.size,0,none⟩=some (.slice At ts.length ct):=(cB hB3 0).trans rfl
  have p1:w3.cell? ⟨W.heap.size,1,none⟩=some (.slice As s.len cs):=(cB hB3 1).trans rfl
  have hbb3:Below W.heap.size W w3:=hbb2.trans (hb3.mono (by omega))
  have HB3:=Lib.hid hB3
  clear hB3 hb3 hvs hI2 hS2 hans
  go_wp2_with fail
  refine (toProgram_s ts s At As ct cs _ (by omega) (by omega) (hT.below hbb3 hbb3.size) (hR.below hbb3 hbb3.size)).mono ?_
  rintro E w4 ⟨⟨k1,k2,rfl,hI4,hS4,hb4⟩,hsf4⟩
  have hs4:=hb4.size
  have HB4:=Lib.hid ((hb4.block W.heap.size (by omega)).trans HB3.out)
  have hbb4:Below W.heap.size W w4:=hbb3.trans (hb4.mono (by omega))
  have HI4:=Lib.hid hI4
  have HS4:=Lib.hid hS4
  have HF4:=Lib.hid hsf4
  have h34:=hb4
  clear hb4 p0 p1 hI4 hS4 hsf4
  have hba:=(Below.refl w4.heap.size w4).alloc (Nat.le_refl _) (.cells #[.slice (some ⟨k1,0,none⟩) ts.length ts.length,.slice (some ⟨k2,0,none⟩) s.len s.len] 30)
  have hza:(w4.alloc (.cells #[.slice (some ⟨k1,0,none⟩) ts.length ts.length,.slice (some ⟨k2,0,none⟩) s.len s.len] 30)).heap.size=w4.heap.size+1:=by simp
  have hXa:=heap_alloc_new w4 (.cells #[.slice (some ⟨k1,0,none⟩) ts.length ts.length,.slice (some ⟨k2,0,none⟩) s.len s.len] 30)
  have HXA:=Lib.hid hXa
  have HZA:=Lib.hid hza
  have hIa:IntsV (w4.alloc (.cells #[.slice (some ⟨k1,0,none⟩) ts.length ts.length,.slice (some ⟨k2,0,none⟩) s.len s.len] 30)) 0 (w4.alloc (.cells #[.slice (some ⟨k1,0,none⟩) ts.length ts.length,.slice (some ⟨k2,0,none⟩) s.len s.len] 30)).heap.size ts (some ⟨k1,0,none⟩) ts.length:=HI4.out.below hba (by simp)
  have hSa:RepV (w4.alloc (.cells #[.slice (some ⟨k1,0,none⟩) ts.length ts.length,.slice (some ⟨k2,0,none⟩) s.len s.len] 30)) 0 (w4.alloc (.cells #[.slice (some ⟨k1,0,none⟩) ts.length ts.length,.slice (some ⟨k2,0,none⟩) s.len s.len] 30)).heap.size s (some ⟨k2,0,none⟩) s.len:=HS4.out.below hba (by simp)
  have HIa:=Lib.hid hIa
  have HSa:=Lib.hid hSa
  have hbb4a:=hbb4.trans (hba.mono (by omega))
  have hgz:=hba.size
  clear hXa hza hIa hSa
  go_wp2_with fail
  refine (implCheckProgram_any ts s _ _ _ _ _ HIa.out HSa.out (tab_below hTab hg hbb4a) (by omega)).mono ?_
  rintro E w6 ⟨vg,rl2,hans2,rfl,hvg,hb6⟩
  obtain rfl:=hans2.unique HANS.out
  rw [HZA.out] at hvg hb6
  have hs6:=hb6.size
  rw [HZA.out] at hs6
  have h46:Below w4.heap.size w4 w6:=hba.trans (hb6.mono (by omega))
  have hbb6:Below W.heap.size W w6:=hbb4.trans (h46.mono (by omega))
  have HB6:=Lib.hid ((h46.block W.heap.size (by omega)).trans HB4.out)
  have HX6a:=Lib.hid ((hb6.block w4.heap.size (by omega)).trans HXA.out)
  have HVG:=Lib.hid hvg
  have hvgo:=Lib.hid hvg.lt
  have HVS6:=Lib.hid ((HVS.out.below h34).below h46)
  clear hvg hba hb6 HIa HSa hans2 hbb4a hgz
  have HIg:=Lib.hid (HVG.out)
  have HIs:=Lib.hid (HVS6.out)
  go_wp2_with fail
  refine (eqIssueS_any rl2 _ _ _ _ w6 (by omega) HIg.out HIs.out).mono ?_
  rintro E w7 ⟨rfl,hb7⟩
  have hs7:=hb7.size
  have hB7:=(hb7.block W.heap.size (by omega)).trans HB6.out
  have hX7a:=(hb7.block w4.heap.size (by omega)).trans HX6a.out
  have h47:Below w4.heap.size w4 w7:=h46.trans (hb7.mono (by omega))
  have hbb7:Below W.heap.size W w7:=hbb6.trans (hb7.mono (by omega))
  have hI7:IntsV w7 0 w7.heap.size ts (some ⟨k1,0,none⟩) ts.length:=HI4.out.below h47 h47.size
  have hS7:RepV w7 0 w7.heap.size s (some ⟨k2,0,none⟩) s.len:=HS4.out.below h47 h47.size
  have HB7:=Lib.hid hB7
  have HX7a:=Lib.hid hX7a
  have HVG7:=Lib.hid (HVG.out.below hb7)
  have HVS7:=Lib.hid (HVS6.out.below hb7)
  have p0:w7.cell? ⟨W.heap.size,0,none⟩=some (.slice At ts.length ct):=(cB hB7 0).trans rfl
  have p1:w7.cell? ⟨W.heap.size,1,none⟩=some (.slice As s.len cs):=(cB hB7 1).trans rfl
  have x0:w7.cell? ⟨w4.heap.size,0,none⟩=some (.slice (some ⟨k1,0,none⟩) ts.length ts.length):=(cB hX7a 0).trans rfl
  have x1:w7.cell? ⟨w4.heap.size,1,none⟩=some (.slice (some ⟨k2,0,none⟩) s.len s.len):=(cB hX7a 1).trans rfl
  clear hB7 hX7a hb7 HIg HIs
  go_wp2_with fail
  go_region_held3 (fun w'=>Below w7.heap.size w7 w'∧w'.cell? ⟨W.heap.size,0,none⟩=some (.slice At ts.length ct)∧w'.cell? ⟨W.heap.size,1,none⟩=some (.slice As s.len cs)∧w'.cell? ⟨w4.heap.size,0,none⟩=some (.slice (some ⟨k1,0,none⟩) ts.length ts.length)∧w'.cell? ⟨w4.heap.size,1,none⟩=some (.slice (some ⟨k2,0,none⟩) s.len s.len))
   (first | exact ⟨(Below.refl w7.heap.size w7).drew,p0,p1,x0,x1⟩ | exact held_P hbn (And.left ‹Below w7.heap.size w7 _∧_›) rfl (by omega) (by omega) p0 p1 x0 x1)
   (first
    | (go_at_call 11;refine (toProgram_any ts s At As ct cs _ (by omega) (by omega) ?_ ?_).mono ?_;(have hbx:=And.left ‹Below w7.heap.size w7 _∧_›;exact hT.below (hbb7.trans (hbx.mono (by omega))) (by have:=hbx.size;omega));(have hbx:=And.left ‹Below w7.heap.size w7 _∧_›;exact hR.below (hbb7.trans (hbx.mono (by omega))) (by have:=hbx.size;omega));rintro E w' ⟨j1,j2,rfl,hI8,hS8,hbn⟩)
    | (go_at_call 13;refine (eqProgram_any ts s _ _ _ _ _ _ _ _ _ ?_ (hI8.keep (Nat.zero_le _) (Nat.le_refl _) fun _ _ _=>rfl) ?_ (hS8.keep (Nat.zero_le _) (Nat.le_refl _) fun _ _ _=>rfl)).mono ?_;(have hbx:=And.left ‹Below w7.heap.size w7 _∧_›;exact hI7.below hbx hbx.size);(have hbx:=And.left ‹Below w7.heap.size w7 _∧_›;exact hS7.below hbx hbx.size);rintro E w' ⟨rfl,hbn⟩))
  obtain ⟨hbl,p0',p1',x0',x1'⟩:=‹Below w7.heap.size w7 _∧_›
  have hsl:=hbl.size
  clear p0 p1 x0 x1 hI7 hS7 p0' p1'
  have h4l:=h47.trans (hbl.mono (by omega))
  have hszl:=h4l.size
  have HVGl:=Lib.hid (HVG7.out.below hbl)
  have HVSl:=Lib.hid (HVS7.out.below hbl)
  have HIl:=Lib.hid (HI4.out.below' h4l (Nat.le_refl _))
  have HSl:=Lib.hid (HS4.out.below' h4l (Nat.le_refl _))
  have HFl:Hid (SoftIn w3.heap.size w4.heap.size _):=fun p h1 h2=>(World.frozen?_of_block (h4l.block p.block h2)).trans (HF4.out _ _ h1)
  have HBl:=Lib.hid ((hbl.block W.heap.size (by omega)).trans HB7.out)
  have hbbl:Below W.heap.size W _:=hbb7.trans (hbl.mono (by omega))
  have h3l:=h34.trans (h4l.mono (by omega))
  go_wp2_with fail
  refine (markProgram_any ts s k1 k2 w3.heap.size w4.heap.size 1 _ (by omega) (by omega) (by omega) (by omega) hszl hs4 HIl.out HSl.out HFl.out).mono ?_
  rintro E wb ⟨rfl,hspb⟩
  have hsb:=hspb.size
  have HVGb:=Lib.hid (HVGl.out.keep fun g hg=>hspb.block g (by have:=hvgo.out g hg;omega) (.inr (by have:=hvgo.out g hg;omega)))
  have HVSb:=Lib.hid (HVSl.out.keep fun g hg=>hspb.block g (by have:=hvso.out g hg;omega) (.inl (by have:=hvso.out g hg;omega)))
  have HBb:=Lib.hid ((hspb.block W.heap.size (by omega) (.inl (by omega))).trans HBl.out)
  have hbbb:Below W.heap.size W wb:=hbbl.trans (hspb.below (by omega) (by omega))
  have hkd:decide ((1:Int)+ts.length+4*s.size<0)=false:=decide_eq_false (by omega)
  clear hspb x0' x1' hbl h4l h3l hbbl
  go_wp2_with fail
  refine (eqIssueS_any rl2 _ _ _ _ wb (by omega) (HVGb.out) (HVSb.out)).mono ?_
  rintro E wd ⟨rfl,hbd⟩
  have hsd:=hbd.size
  have HVGd:=Lib.hid (HVGb.out.below hbd)
  have HVSd:=Lib.hid (HVSb.out.below hbd)
  have HBd:=Lib.hid ((hbd.block W.heap.size (by omega)).trans HBb.out)
  have hbbd:Below W.heap.size W wd:=hbbb.trans (hbd.mono (by omega))
  clear hbd
  go_wp2_with fail
  refine (markIssueS_val (w4.heap.size+1) _ rl2 1 wd HVGd.out (by omega) (by omega) (by omega)).mono ?_
  rintro E we ⟨rfl,hmk,hbe⟩
  have hse:=hbe.size
  have HMK:=Lib.hid hmk
  have HVSe:=Lib.hid (HVSd.out.keep fun g hg=>hbe.block g (by have:=hvso.out g hg;omega))
  have hBe2:=Lib.hid ((hbe.block W.heap.size (by omega)).trans HBd.out)
  have hbbe:Below W.heap.size W we:=hbbd.trans (hbe.mono (by omega))
  clear hmk hbe
  go_wp2_with fail
  refine (heldIssueS_val _ rl2.length 1 we HMK.out (by omega) (by omega) (by omega)).mono ?_
  rintro E we2 ⟨rfl,hbe2⟩
  have hq0:¬ (1:Int)+3*rl2.length<0:=by omega
  have hse2:=hbe2.size
  replace HMK:=Lib.hid (HMK.out.below hbe2)
  replace HVSe:=Lib.hid (HVSe.out.below hbe2)
  have hBe:=(hbe2.block W.heap.size (by have:=hbbe.size;have:=Array.getElem?_eq_some_iff.mp hBe2.out;omega)).trans hBe2.out
  have p0:we2.cell? ⟨W.heap.size,0,none⟩=some (.slice At ts.length ct):=(cB hBe 0).trans rfl
  have p1:we2.cell? ⟨W.heap.size,1,none⟩=some (.slice As s.len cs):=(cB hBe 1).trans rfl
  have hbbe:=hbbe.trans (hbe2.mono (by omega))
  clear hbe2 hBe hBe2
  go_wp2_with fail
  refine (toProgram_any ts s At As ct cs we2 (by omega) (by omega) (hT.below hbbe (by omega)) (hR.below hbbe (by omega))).mono ?_
  rintro E wf ⟨j1,j2,rfl,hIf,hSf,hbf⟩
  have hsf:=hbf.size
  have hbbf:Below W.heap.size W wf:=hbbe.trans (hbf.mono (by omega))
  have hS9:=implCheckProgram_any ts s _ _ _ _ wf (hIf.keep (Nat.zero_le _) (Nat.le_refl _) fun _ _ _=>rfl) (hSf.keep (Nat.zero_le _) (Nat.le_refl _) fun _ _ _=>rfl) (tab_below hTab hg hbbf) (by omega)
  clear hIf hSf
  go_wp2_with fail
  refine hS9.mono ?_
  rintro E wh ⟨vh,rl3,hans3,rfl,hvh,hbh⟩
  obtain rfl:=hans3.unique HANS.out
  have hsh:=hbh.size
  have hIh:=hvh
  have hbeh:=hbf.trans (hbh.mono hsf)
  have HIh:=Lib.hid hIh
  have HVSh:=Lib.hid (HVSe.out.below hbeh)
  have hbbh:Below W.heap.size W wh:=hbbf.trans (hbh.mono (by omega))
  clear hvh hIh hS9 hbh hbf hans3
  go_wp2_with fail
  refine (eqIssueS_any rl3 _ _ _ _ wh (by omega) HIh.out (HVSh.out)).mono ?_
  rintro E wi ⟨rfl,hbi⟩
  have HMKi:=Lib.hid (HMK.out.below (hbeh.trans (hbi.mono (by omega))))
  have hbbi:Below W.heap.size W wi:=hbbh.trans (hbi.mono (by omega))
  clear hbi hbeh
  go_wp2_with fail
  refine (heldIssueS_val _ rl3.length 1 wi HMKi.out (by omega) (by omega) (by omega)).mono ?_
  rintro E wj ⟨rfl,hbj⟩
  have hbbj:Below W.heap.size W wj:=hbbi.trans (hbj.mono hbbi.size)
  clear hbj
  go_wp2_with fail
  go_ret
  exact ⟨rfl,hbbj⟩
 ·have hsub:Hid (subI 1048576 (ts.length+s.size)=-1):=if_neg (by omega)
  go_enter Tryz.func5,Tryz.ntmps5
  go_wp2_with fail
  refine (szProgram_any ts.length ct At s As cs 1048576 _ hTl hTm hR0 (by omega) (by omega)).mono ?_
  rintro E w1 ⟨he,hb1⟩
  rw [hsub.out] at he
  subst he
  rw [HZ.out] at hb1
  go_wp2_with fail
  go_ret
  exact ⟨rfl,hb0.trans (hb1.mono (by omega))⟩
theorem own:ownKnob Tryz.prog.godebug=none:=by kernel_rfl
theorem laidOut:laidOutB Tryz.prog=true:=by kernel_rfl
theorem lifted (os:Os) (started:os.Started) (H:Type) (enc:TypeId × Value→H) :
  ReturnsInHanded {} Tryz.checked os 5 .any (fun w args=>(Rows.fnExactCheckProgramSpec.pre enc Tryz.prog Tryz.f5 [] false w args∧laidMetH Tryz.prog listed w)∧sizedMet enc Tryz.prog Tryz.f5 (OpenSpec.ofChange Rows.fnExactCheckProgramSpec) false w args)
   (Rows.fnExactCheckProgramSpec.post enc Tryz.prog Tryz.f5 false true false false):=by
 refine returnsInHanded_of_change_and (C:=Tryz.checked) (X:=fun w _=>laidMetH Tryz.prog listed w) (fun _ _ _ hh h=>h.of_heap hh) own started (by kernel_rfl) Tryz.func5
  (ChangeSpec.witness_shaped (enc:=enc) (C:=Tryz.checked) (os:=os) (X:=fun w _=>laidMetH Tryz.prog listed w) false (World.doorLaid Tryz.prog 400 os) #[.agg #[.slice none 0 0,.slice none 0 0]] 8 rfl (World.shaped_of_RefB (by kernel_rfl) (by kernel_rfl)) (by kernel_rfl) (by kernel_rfl) (by kernel_rfl) (door_met os _)) ?_
 intro W base args ds gs before hval0 hW _ _ hL _
 have hval:∀ (j:Nat) t v,Tryz.f5.params[j]?=some t→args[j]?=some v→Value.okWide Tryz.prog W .any base t v:=hval0
 have hW':=hW
 obtain ⟨p,q,hA0,hV,rfl,hfz,hnd⟩:=hW
 have hA:DataW.TrodAll enc Tryz.prog W 0 (fun _=>true) true Tryz.f5.params.toList args.toList ds p:=hA0
 rw [Tryz.params5] at hA hval
 obtain ⟨v0,vs0,d0,ds0,p0,q0,hargs,rfl,rfl,h0,r0⟩:=trodAll_cons hA
 obtain ⟨rfl,rfl,rfl⟩:=trodAll_nil r0
 obtain rfl:args=#[v0]:=by cases args;simp_all
 obtain ⟨rfl,rfl⟩:=trodVars_none hV
 have k0:=h0
 have lt0:∀ x∈p0,x.block<W.heap.size:=by obtain ⟨m,hm⟩:=k0;exact DataW.trod_lt m _ _ _ hm
 obtain ⟨c0,e0,y0,z0,n0,rfl,hd0,hp0,hy0,hz0⟩:=open_agg2 Tryz.underlying25 (by kernel_rfl) Tryz.cellsProgR (hval 0 25 v0 rfl rfl) h0
 obtain ⟨ts0,At0,ct0,rfl,hT0⟩:=read_ints hy0
 obtain ⟨s0,As0,cs0,rfl,hR0⟩:=read_stmts _ _ _ hz0
 obtain ⟨hTab,hTabLt⟩:=tab_of_laid hL
 clear hA0 hval0
 simp only [List.append_nil] at hW'
 refine (walk ts0 s0 At0 As0 ct0 cs0 W hT0 hR0 hTab hTabLt).mono fun e W' ⟨he,bel⟩=>?_
 subst he
 exact ⟨_,rfl,_,_,_,[],_,[],hW',trodAll_mk1 (shut_bool Tryz.underlying4 _),(trodAll_cons_mk (Below.trod laidOut (by kernel_rfl) (of_decide_eq_true (by kernel_rfl)) k0 bel lt0) trodAll_mk0),rfl,bel.frame _,fun h=>by cases h⟩
theorem over:Rows.fnExactCheckProgramRow.holds Tryz.pinned (OpenSpec.ofChange Rows.fnExactCheckProgramSpec) :=
 OpenClaim.holds_of_wide 5 Tryz.f5 rfl rfl rfl rfl rfl rfl rfl ⟨rfl,rfl,rfl,rfl,rfl⟩ rfl rfl rfl rfl rfl (by kernel_rfl) Tryz.func5 (by kernel_rfl)
  (of_decide_eq_true (by kernel_rfl)) (by unfold Func.isWrapper;first | (rw [if_pos (by decide +kernel)];kernel_rfl) | (rw [if_neg (by decide +kernel)];exact ⟨rfl,rfl⟩))
  (fun os started H enc _=>lifted os started H enc)
theorem proved:Rows.FnExactCheckProgramCardSaid :=
 Claim7.holds_tied_plain_at .later [] [.data] true (true, "7ff1b889dd3e7060031c708905c5681d92d9db4f1bc37e17259a9f0b75fb960a") false
  over (fun _ h=>by cases h) (by kernel_rfl) (fun _ h=>by cases h) fnExactCheckProgram_row_tie rfl ⟨rfl,rfl⟩ (by kernel_rfl) rfl
  (fun f fn hf hfn=>by
   obtain rfl:f=5:=Option.some.inj ((show Tryz.prog.funcNamed "loop.example/borrowcheck/laws.FnExactCheckProgram" = some 5 by kernel_rfl).symm.trans hf) |>.symm
   obtain rfl:fn=Tryz.f5:=(Option.some.inj (Tryz.func5.symm.trans hfn)).symm
   exact ⟨by kernel_rfl,fun j t ht=>by
    rw [Tryz.params5] at ht
    have hm:t∈[25]:=by simpa using Array.mem_of_getElem? ht
    have hall:([25].all fun u=>!Tryz.prog.wantsStandIn u)=true:=by kernel_rfl
    exact (show Tryz.prog.wantsStandIn t=false by simpa using List.all_eq_true.1 hall t hm)⟩)
  (by kernel_rfl)
#print axioms proved
end Go.Proofs.YtedkkphogeealaaGreatDoor.fnCheckProgram
