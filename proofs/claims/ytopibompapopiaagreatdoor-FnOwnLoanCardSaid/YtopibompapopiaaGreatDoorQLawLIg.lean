/- LoansIn of the model. -/
import Derived.Test.YtopibompapopiaaGreatDoorQLmoX
import Derived.Test.YtopibompapopiaaGreatDoorQL2Xb
import Derived.Test.YtopibompapopiaaGreatDoorQFwdG
import Derived.Test.YtopibompapopiaaGreatDoorQL3P
import Derived.Test.YtopibompapopiaaGreatDoorQLplG
import Derived.Deep.RegionHeld3
namespace Go.Proofs.YtopibompapopiaaGreatDoor
open Go.RowKit Go.Deep
set_option linter.unusedVariables false
set_option maxRecDepth 100000 in
set_option maxHeartbeats 4000000 in
theorem specLoansIn_any (ts:List Int) (s:Sts) (At As:Option Addr) (ct cs:Nat) (a v:Int) (w:World) (hsz:s.size≤1048576) (hT:IntsV w 0 w.heap.size ts At ct) (hR:RepV w 0 w.heap.size s As cs) :
  Calls Tryz.prog 22 #[.agg #[.slice At ts.length ct,.slice As s.len cs],.int .i64 a,.int .i64 v] w fun E w'=>∃ v' l,E=.returned v'∧RowI w' w.heap.size v' l∧AnsAt (LoIn ts v) (validB ts s) s a l∧Below w.heap.size w w':=by
 have hb0:=(Below.refl w.heap.size w).alloc (Nat.le_refl _) (.cells #[.slice At ts.length ct,.slice As s.len cs] 26)
 have hz0:(w.alloc (.cells #[.slice At ts.length ct,.slice As s.len cs] 26)).heap.size=w.heap.size+1:=by simp
 have hB0:=heap_alloc_new w (.cells #[.slice At ts.length ct,.slice As s.len cs] 26)
 have hl3:=l3Point_any ts s At As ct cs a v _ hsz (hT.below hb0 (by simp)) (hR.below hb0 (by simp))
 have HZ:=Lib.hid hz0
 have HB:=Lib.hid hB0
 clear hz0 hB0
 by_cases hin:validB ts s=true∧0≤a∧a<((progPts s).length:Int)∧0≤v∧v<(ts.length:Int)
 ·obtain ⟨h1,h0,h2,h3,h4⟩:=id hin
  rw [decide_eq_true hin] at hl3
  obtain ⟨k,rfl⟩:∃ k:Nat,a=(k:Int):=⟨a.toNat,by omega⟩
  obtain ⟨u,rfl⟩:∃ u:Nat,v=(u:Int):=⟨v.toNat,by omega⟩
  have hk:k<(progPts s).length:=by omega
  have hul:u<ts.length:=by omega
  have hAT:=progPts_allTyped h1
  have ht6:=hAT.1
  have hlv:∀ W:World,Below w.heap.size w W→Calls Tryz.prog 56 #[.agg #[.slice At ts.length ct,.slice As s.len cs]] W (L4Post ts (progPts s) W):=fun W hW=>l4Flow_any ts s At As ct cs W h1 (hT.below hW hW.size) (hR.below hW hW.size)
  have hmk:∀ l:List Int,IsPathsB (LoIn ts (u:Int) (progPts s) k) l→AnsAt (LoIn ts (u:Int)) (validB ts s) s (k:Int) l:=fun l hl=>.inl ⟨h1,by omega,h2,by rw [Int.toNat_natCast];exact hl⟩
  have hle:(progPts s).length≤61:=by
   have h8:=s.npts_le
   have h9:=valid_size h1
   rw [progPts_len]
   omega
  generalize progPts s=ds at hlv hmk hk hAT hle
  have HLE:=Lib.hid hle
  have HLV:=Lib.hid hlv
  have HMK:=Lib.hid hmk
  have HAT:=Lib.hid hAT
  clear hlv hmk hAT hT hR h0 h1 h2 h3 h4 hin
  go_enter Tryz.func22,Tryz.ntmps22
  go_wp2_with fail
  refine hl3.mono ?_
  rintro E w1 ⟨rfl,hb1⟩
  rw [HZ.out] at hb1
  have hs1:=hb1.size
  rw [HZ.out] at hs1
  have hbw:Below w.heap.size w w1:=hb0.trans (hb1.mono (by omega))
  have hB1:=(hb1.block w.heap.size (by omega)).trans HB.out
  have p0:w1.cell? ⟨w.heap.size,0,none⟩=some (.slice At ts.length ct):=(cB hB1 0).trans rfl
  have p1:w1.cell? ⟨w.heap.size,1,none⟩=some (.slice As s.len cs):=(cB hB1 1).trans rfl
  have hlf:=HLV.out w1 hbw
  clear hl3 hb1 hB1
  go_wp2_with fail
  refine hlf.mono ?_
  rintro E w2 ⟨R,c,ms,o,rfl,hrc1,hrc2,hF,hiff,hbl⟩
  obtain ⟨c0,c1⟩:=hF.cells hk
  have hbls:=hbl.size
  have hle0:ds.length≤61:=HLE.out
  unfold maxLen at hrc2
  have hst:=hF.st k hk
  have hfa:=hst.fa (by omega)
  rw [hfa] at c0
  have c2:=hst.slot hul
  obtain ⟨hcf1,hcf2⟩:=hst.cf
  unfold maxLen at hcf2
  have hfl:=hst.fl u (.inl hul)
  have hcp:=hst.cp u (.inl hul)
  have hnum:=l3Numbers_w ((ms k).bl u) ds.length ((ms k).cp u) (o k u) w2 (by omega) hcp.1 hcp.2 hfl.lt hfl
  have hib:IsPathsB (LoIn ts (u:Int) ds k) (firstN (o k u) ds.length):=isPathsB_of (by omega) fun i=>by
   unfold LoIn
   rw [Int.toNat_natCast]
   exact ⟨fun h=>⟨by omega,by omega,(hiff k u i hk).mp h.2⟩,fun h=>⟨(LoanB.dom HAT.out h.2.2).2,(hiff k u i hk).mpr h.2.2⟩⟩
  have HANS:=Lib.hid (HMK.out _ hib)
  have hbw2:Below w.heap.size w w2:=hbw.trans (hbl.mono (by omega))
  clear hlf hF hiff hfl hbl hib p0 p1 hcp hst hfa
  go_wp2_with fail
  refine hnum.mono ?_
  rintro E w3 ⟨vr,rfl,hrow,hb3⟩
  have HROW:=Lib.hid (hrow.mono (B':=w.heap.size) (by omega))
  have hbw3:Below w.heap.size w w3:=hbw2.trans (hb3.mono (by omega))
  clear hnum hrow hb3
  go_wp2_with fail
  go_ret
  exact ⟨_,_,rfl,HROW.out,HANS.out,hbw3⟩
 ·rw [decide_eq_false hin] at hl3
  have hans:AnsAt (LoIn ts v) (validB ts s) s a []:=by
   by_cases hin2:validB ts s=true∧0≤a∧a<((progPts s).length:Int)
   ·refine .inl ⟨hin2.1,hin2.2.1,hin2.2.2,fun _=>false,by simp,fun x=>⟨fun h=>(by cases h.2),fun h=>?_⟩⟩
    obtain ⟨h5,h6,h7⟩:=h
    have h8:=(LoanB.dom (progPts_allTyped hin2.1) h7).1
    have ht6:=(progPts_allTyped hin2.1).1
    rcases h8 with h8 | h8
    ·exact absurd ⟨hin2.1,hin2.2.1,hin2.2.2,h5,by omega⟩ hin
    ·omega
   ·exact .inr ⟨hin2,rfl⟩
  have HANS:=Lib.hid hans
  clear hans hT hR hin
  go_enter Tryz.func22,Tryz.ntmps22
  go_wp2_with fail
  refine hl3.mono ?_
  rintro E w1 ⟨rfl,hb1⟩
  rw [HZ.out] at hb1
  have hs1:=hb1.size
  rw [HZ.out] at hs1
  have hbw:Below w.heap.size w w1:=hb0.trans (hb1.mono (by omega))
  have hbe:Below w.heap.size w (w1.alloc (.cells #[] 3)):=hbw.alloc (by omega) _
  have hrow:RowI (w1.alloc (.cells #[] 3)) w.heap.size (.slice (some ⟨w1.heap.size,0,none⟩) 0 0) []:=World.ownsRow_lit (base:=w.heap.size) (e:=3) (size:=1) w1 #[] 0 (by omega) (by simp [maxLen]) rfl
  have HROW:=Lib.hid hrow
  clear hl3 hb1 hrow
  go_wp2_with fail
  go_ret
  exact ⟨_,_,rfl,HROW.out,HANS.out,hbe⟩
end Go.Proofs.YtopibompapopiaaGreatDoor
