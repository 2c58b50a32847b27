/- A point and a variable that there are,by the model: l3Point. -/
import Derived.Test.YtofcdecpipgmjaaGreatDoorRStmtY
import Derived.Test.YtofcdecpipgmjaaGreatDoorRL2Xb
import Derived.Deep.RegionHeld3
namespace Go.Proofs.YtofcdecpipgmjaaGreatDoor
open Go.RowKit Go.Deep
set_option linter.unusedVariables false
set_option maxRecDepth 100000 in
set_option maxHeartbeats 4000000 in
theorem l3Point_any (ts:List Int) (s:Sts) (At As:Option Addr) (ct cs:Nat) (a v:Int) (w:World) (hsz:s.size≤1048576) (hT:IntsV w 0 w.heap.size ts At ct) (hR:RepV w 0 w.heap.size s As cs) :
  Calls Tryz.prog 42 #[.agg #[.slice At ts.length ct,.slice As s.len cs],.int .i64 a,.int .i64 v] w fun E w'=>E=.returned (.bool (decide (validB ts s=true∧0≤a∧a<((progPts s).length:Int)∧0≤v∧v<(ts.length:Int))))∧Below w.heap.size w w':=by
 have hb0:=(Below.refl w.heap.size w).alloc (Nat.le_refl _) (.cells #[.slice At ts.length ct,.slice As s.len cs] 26)
 have hz0:(w.alloc (.cells #[.slice At ts.length ct,.slice As s.len cs] 26)).heap.size=w.heap.size+1:=by simp
 have hB0:=heap_alloc_new w (.cells #[.slice At ts.length ct,.slice As s.len cs] 26)
 have hpv:=specProgramValid_any ts s At As ct cs _ hsz (hT.below hb0 (by simp)) (hR.below hb0 (by simp))
 have HZ:=Lib.hid hz0
 have HB:=Lib.hid hB0
 have hTm:=hT.2.1
 unfold maxLen at hTm
 have hTl:=hT.1
 clear hz0 hB0
 cases hok:validB ts s
 ·rw [hok] at hpv
  have hd:decide (false=true∧0≤a∧a<((progPts s).length:Int)∧0≤v∧v<(ts.length:Int))=false:=decide_eq_false (fun h=>by cases h.1)
  rw [hd]
  clear hd hok
  go_enter Tryz.func42,Tryz.ntmps42
  go_wp2_with fail
  refine hpv.mono ?_
  rintro E w1 ⟨rfl,hb1⟩
  rw [HZ.out] at hb1
  have hb:Below w.heap.size w w1:=hb0.trans (hb1.mono (by omega))
  clear hpv hb1
  go_wp2_with fail
  go_ret
  exact ⟨rfl,by first | exact hb | exact hb.drew⟩
 ·rw [hok] at hpv
  by_cases h0:0≤a
  ·have d0:decide ((0:Int)≤a)=true:=decide_eq_true h0
   have hlp0:∀ W:World,Below w.heap.size w W→Calls Tryz.prog 45 #[.agg #[.slice At ts.length ct,.slice As s.len cs]] W fun E w'=>∃ v,E=.returned v∧PRow w' W.heap.size v (progPts s)∧Below W.heap.size W w':=fun W hW=>l2Points_any ts s At As ct cs W (by have:=valid_size hok;omega) (hR.below hW hW.size)
   have HLP:=Lib.hid hlp0
   clear hlp0 hT hR
   by_cases h1:a<((progPts s).length:Int)
   ·have d1:decide (a<((progPts s).length:Int))=true:=decide_eq_true h1
    by_cases h2:0≤v
    ·have d2:decide ((0:Int)≤v)=true:=decide_eq_true h2
     by_cases h3:v<(ts.length:Int)
     ·have hd:decide (true=true∧0≤a∧a<((progPts s).length:Int)∧0≤v∧v<(ts.length:Int))=true:=decide_eq_true ⟨rfl,h0,h1,h2,h3⟩
      rw [hd]
      have d3:decide (v<(ts.length:Int))=true:=decide_eq_true h3
      clear hd hok h0
      generalize progPts s=ds at *
      go_enter Tryz.func42,Tryz.ntmps42
      go_wp2_with fail
      refine hpv.mono ?_
      rintro E w1 ⟨rfl,hb1⟩
      rw [HZ.out] at hb1
      have hs1:=hb1.size
      rw [HZ.out] at hs1
      have hb:Below w.heap.size w w1:=hb0.trans (hb1.mono (by omega))
      have hB1:=(hb1.block w.heap.size (by omega)).trans HB.out
      have p0:w1.cell? ⟨w.heap.size,0,none⟩=some (.slice At ts.length ct):=(cB hB1 0).trans rfl
      have p1:w1.cell? ⟨w.heap.size,1,none⟩=some (.slice As s.len cs):=(cB hB1 1).trans rfl
      have hlp:=HLP.out w1 hb
      clear hpv
      go_wp2_with fail
      refine hlp.mono ?_
      rintro E w2 ⟨u,rfl,hP,hb2⟩
      obtain ⟨Au,cu,hu⟩:=hP.slice
      subst hu
      have hbW:=hb.trans (hb2.mono hb.size)
      have p2:w2.cell? ⟨w.heap.size,0,none⟩=some (.slice At ts.length ct):=(hb2.cell (by simp;omega)).trans p0
      clear hlp hP hb2 hb1 hB1 p0 p1
      go_wp2_with fail
      go_ret
      exact ⟨rfl,by first | exact hbW | exact hbW.drew⟩
     ·have hd:decide (true=true∧0≤a∧a<((progPts s).length:Int)∧0≤v∧v<(ts.length:Int))=false:=decide_eq_false (fun h=>h3 h.2.2.2.2)
      rw [hd]
      have d3:decide (v<(ts.length:Int))=false:=decide_eq_false h3
      clear hd hok h0
      generalize progPts s=ds at *
      go_enter Tryz.func42,Tryz.ntmps42
      go_wp2_with fail
      refine hpv.mono ?_
      rintro E w1 ⟨rfl,hb1⟩
      rw [HZ.out] at hb1
      have hs1:=hb1.size
      rw [HZ.out] at hs1
      have hb:Below w.heap.size w w1:=hb0.trans (hb1.mono (by omega))
      have hB1:=(hb1.block w.heap.size (by omega)).trans HB.out
      have p0:w1.cell? ⟨w.heap.size,0,none⟩=some (.slice At ts.length ct):=(cB hB1 0).trans rfl
      have p1:w1.cell? ⟨w.heap.size,1,none⟩=some (.slice As s.len cs):=(cB hB1 1).trans rfl
      have hlp:=HLP.out w1 hb
      clear hpv
      go_wp2_with fail
      refine hlp.mono ?_
      rintro E w2 ⟨u,rfl,hP,hb2⟩
      obtain ⟨Au,cu,hu⟩:=hP.slice
      subst hu
      have hbW:=hb.trans (hb2.mono hb.size)
      have p2:w2.cell? ⟨w.heap.size,0,none⟩=some (.slice At ts.length ct):=(hb2.cell (by simp;omega)).trans p0
      clear hlp hP hb2 hb1 hB1 p0 p1
      go_wp2_with fail
      go_ret
      exact ⟨rfl,by first | exact hbW | exact hbW.drew⟩
    ·have hd:decide (true=true∧0≤a∧a<((progPts s).length:Int)∧0≤v∧v<(ts.length:Int))=false:=decide_eq_false (fun h=>h2 h.2.2.2.1)
     rw [hd]
     have d2:decide ((0:Int)≤v)=false:=decide_eq_false h2
     clear hd hok h0
     generalize progPts s=ds at *
     go_enter Tryz.func42,Tryz.ntmps42
     go_wp2_with fail
     refine hpv.mono ?_
     rintro E w1 ⟨rfl,hb1⟩
     rw [HZ.out] at hb1
     have hs1:=hb1.size
     rw [HZ.out] at hs1
     have hb:Below w.heap.size w w1:=hb0.trans (hb1.mono (by omega))
     have hB1:=(hb1.block w.heap.size (by omega)).trans HB.out
     have p0:w1.cell? ⟨w.heap.size,0,none⟩=some (.slice At ts.length ct):=(cB hB1 0).trans rfl
     have p1:w1.cell? ⟨w.heap.size,1,none⟩=some (.slice As s.len cs):=(cB hB1 1).trans rfl
     have hlp:=HLP.out w1 hb
     clear hpv
     go_wp2_with fail
     refine hlp.mono ?_
     rintro E w2 ⟨u,rfl,hP,hb2⟩
     obtain ⟨Au,cu,hu⟩:=hP.slice
     subst hu
     have hbW:=hb.trans (hb2.mono hb.size)
     have p2:w2.cell? ⟨w.heap.size,0,none⟩=some (.slice At ts.length ct):=(hb2.cell (by simp;omega)).trans p0
     clear hlp hP hb2 hb1 hB1 p0 p1
     go_wp2_with fail
     go_ret
     exact ⟨rfl,by first | exact hbW | exact hbW.drew⟩
   ·have hd:decide (true=true∧0≤a∧a<((progPts s).length:Int)∧0≤v∧v<(ts.length:Int))=false:=decide_eq_false (fun h=>h1 h.2.2.1)
    rw [hd]
    have d1:decide (a<((progPts s).length:Int))=false:=decide_eq_false h1
    clear hd hok h0
    generalize progPts s=ds at *
    go_enter Tryz.func42,Tryz.ntmps42
    go_wp2_with fail
    refine hpv.mono ?_
    rintro E w1 ⟨rfl,hb1⟩
    rw [HZ.out] at hb1
    have hs1:=hb1.size
    rw [HZ.out] at hs1
    have hb:Below w.heap.size w w1:=hb0.trans (hb1.mono (by omega))
    have hB1:=(hb1.block w.heap.size (by omega)).trans HB.out
    have p0:w1.cell? ⟨w.heap.size,0,none⟩=some (.slice At ts.length ct):=(cB hB1 0).trans rfl
    have p1:w1.cell? ⟨w.heap.size,1,none⟩=some (.slice As s.len cs):=(cB hB1 1).trans rfl
    have hlp:=HLP.out w1 hb
    clear hpv
    go_wp2_with fail
    refine hlp.mono ?_
    rintro E w2 ⟨u,rfl,hP,hb2⟩
    obtain ⟨Au,cu,hu⟩:=hP.slice
    subst hu
    have hbW:=hb.trans (hb2.mono hb.size)
    have p2:w2.cell? ⟨w.heap.size,0,none⟩=some (.slice At ts.length ct):=(hb2.cell (by simp;omega)).trans p0
    clear hlp hP hb2 hb1 hB1 p0 p1
    go_wp2_with fail
    go_ret
    exact ⟨rfl,by first | exact hbW | exact hbW.drew⟩
  ·have d0:decide ((0:Int)≤a)=false:=decide_eq_false h0
   have hd:decide (true=true∧0≤a∧a<((progPts s).length:Int)∧0≤v∧v<(ts.length:Int))=false:=decide_eq_false (fun h=>h0 h.2.1)
   rw [hd]
   clear hd hok h0
   go_enter Tryz.func42,Tryz.ntmps42
   go_wp2_with fail
   refine hpv.mono ?_
   rintro E w1 ⟨rfl,hb1⟩
   rw [HZ.out] at hb1
   have hb:Below w.heap.size w w1:=hb0.trans (hb1.mono (by omega))
   clear hpv hb1
   go_wp2_with fail
   go_ret
   exact ⟨rfl,by first | exact hb | exact hb.drew⟩
end Go.Proofs.YtofcdecpipgmjaaGreatDoor
