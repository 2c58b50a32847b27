/- CellsOf,SettersOf and NumbersOf of the model. -/
import Derived.Test.YtdcldcffnkhegaaGreatDoorQTrF
import Derived.Test.YtdcldcffnkhegaaGreatDoorQTrI
import Derived.Test.YtdcldcffnkhegaaGreatDoorQL2Xb
import Derived.Test.YtdcldcffnkhegaaGreatDoorQFwdG
import Derived.Test.YtdcldcffnkhegaaGreatDoorQL3P
import Derived.Deep.RegionHeld3
namespace Go.Proofs.YtdcldcffnkhegaaGreatDoor.tr
open Go.RowKit Go.Deep
set_option linter.unusedVariables false
set_option maxRecDepth 100000 in
set_option maxHeartbeats 4000000 in
theorem specCellsOf_any (ts:List Int) (s:Sts) (At As:Option Addr) (ct cs:Nat) (a v:Int) (w:World) (hsz:s.size≤1048576) (hT:IntsV w 0 w.heap.size ts At ct) (hR:RepV w 0 w.heap.size s As cs) :
  Calls Tryz.prog 15 #[.agg #[.slice At ts.length ct,.slice As s.len cs],.int .i64 a,.int .i64 v] w fun E w'=>∃ v' l,E=.returned v'∧RowI w' w.heap.size v' l∧AnsAt (TrIn 0 ts v) (validB ts s) s a l∧Below w.heap.size w w':=by
 have hb0:=(Below.refl w.heap.size w).alloc (Nat.le_refl _) (.cells #[.slice At ts.length ct,.slice As s.len cs] 26)
 have hz0:(w.alloc (.cells #[.slice At ts.length ct,.slice As s.len cs] 26)).heap.size=w.heap.size+1:=by simp
 have hB0:=heap_alloc_new w (.cells #[.slice At ts.length ct,.slice As s.len cs] 26)
 have hl3:=l3Point_any ts s At As ct cs a v _ hsz (hT.below hb0 (by simp)) (hR.below hb0 (by simp))
 have HZ:=Lib.hid hz0
 have HB:=Lib.hid hB0
 clear hz0 hB0
 by_cases hin:validB ts s=true∧0≤a∧a<((progPts s).length:Int)∧0≤v∧v<(ts.length:Int)
 ·obtain ⟨h1,h0,h2,h3,h4⟩:=id hin
  rw [decide_eq_true hin] at hl3
  obtain ⟨k,rfl⟩:∃ k:Nat,a=(k:Int):=⟨a.toNat,by omega⟩
  obtain ⟨u,rfl⟩:∃ u:Nat,v=(u:Int):=⟨v.toNat,by omega⟩
  have hk:k<(progPts s).length:=by omega
  have hul:u<ts.length:=by omega
  have hAT:=progPts_allTyped h1
  have ht6:=hAT.1
  have hle:(progPts s).length≤61:=by
   have h8:=s.npts_le
   have h9:=valid_size h1
   rw [progPts_len]
   omega
  have hlp:∀ W:World,Below w.heap.size w W→Calls Tryz.prog 45 #[.agg #[.slice At ts.length ct,.slice As s.len cs]] W _:=fun W hW=>l2Points_any ts s At As ct cs W (by have:=valid_size h1;omega) (hR.below hW hW.size)
  have hlv:∀ W:World,Below w.heap.size w W→Calls Tryz.prog 44 #[.agg #[.slice At ts.length ct,.slice As s.len cs],.int .i64 0,.int .i64 ((progPts s).length:Nat)] W (LPost 0 ts (progPts s) W):=fun W hW=>l10Flow_any 0 (by decide) ts s At As ct cs W h1 (hT.below hW hW.size) (hR.below hW hW.size)
  have hmk:∀ l:List Int,IsPathsB (TrIn 0 ts (u:Int) (progPts s) k) l→AnsAt (TrIn 0 ts (u:Int)) (validB ts s) s (k:Int) l:=fun l hl=>.inl ⟨h1,by omega,h2,by rw [Int.toNat_natCast];exact hl⟩
  generalize progPts s=ds at hlp hlv hmk hk hAT hle
  have HLE:=Lib.hid hle
  have HLV:=Lib.hid hlv
  have HLP:=Lib.hid hlp
  have HMK:=Lib.hid hmk
  have HAT:=Lib.hid hAT
  have hkk:0<ds.length:=by omega
  clear hlv hmk hAT hT hR h0 h1 h2 h3 h4 hin hlp
  go_enter Tryz.func15,Tryz.ntmps15
  go_wp2_with fail
  refine hl3.mono ?_
  rintro E w1 ⟨rfl,hb1⟩
  rw [HZ.out] at hb1
  have hs1:=hb1.size
  rw [HZ.out] at hs1
  have hbw:Below w.heap.size w w1:=hb0.trans (hb1.mono (by omega))
  have hB1:=(hb1.block w.heap.size (by omega)).trans HB.out
  have HP0:Hid (w1.cell? ⟨w.heap.size,0,none⟩=some (.slice At ts.length ct)):=Lib.hid ((cB hB1 0).trans rfl)
  have HP1:Hid (w1.cell? ⟨w.heap.size,1,none⟩=some (.slice As s.len cs)):=Lib.hid ((cB hB1 1).trans rfl)
  have HLW:Hid (w.heap.size<w1.heap.size):=Lib.hid (by omega)
  have HBW:=Lib.hid hbw
  clear hl3 hb1 hB1 hbw hb0
  go_upto_region 3 with fail
  refine wp_region_held_drew (S:=(fun w9=>Below w1.heap.size w1 w9)) (by kernel_rfl) (Below.refl _ _).drew (fun hHeld=>?_)
  generalize hwd:w1.drew=wd at *
  clear hwd
  refine wpAnyH_take (i:=0) (oi:=⟨_,_,_,_,_,_⟩) (v:=.agg #[.slice At ts.length ct,.slice As s.len cs]) rfl (by kernel_rfl) (by kernel_rfl) (by kernel_rfl) (fun _ _ _ h=>h) (Or.inl ⟨by rfl,fun w9 hSw=>by have h9:=(hSw.cell (p:=⟨w.heap.size,0,none⟩) HLW.out).trans HP0.out;have h8:=(hSw.cell (p:=⟨w.heap.size,1,none⟩) HLW.out).trans HP1.out;go_simp⟩) hHeld ?_
  try simp only [Act.put,sA,sB,sC]
  refine wpAnyH_take (i:=1) (oi:=⟨_,_,_,_,_,_⟩) (v:=.agg #[.slice At ts.length ct,.slice As s.len cs]) rfl (by kernel_rfl) (by kernel_rfl) (by kernel_rfl) (fun _ _ _ h=>h) (Or.inl ⟨by rfl,fun w9 hSw=>by have h9:=(hSw.cell (p:=⟨w.heap.size,0,none⟩) HLW.out).trans HP0.out;have h8:=(hSw.cell (p:=⟨w.heap.size,1,none⟩) HLW.out).trans HP1.out;go_simp⟩) hHeld ?_
  try simp only [Act.put,sA,sB,sC]
  refine wpAnyH_take (i:=5) (oi:=⟨_,_,_,_,_,_⟩) (v:=.int .i64 (k:Int)) rfl (by kernel_rfl) (by kernel_rfl) (by kernel_rfl) (fun _ _ _ h=>h) (Or.inl ⟨by rfl,fun w hSw=>by go_simp⟩) hHeld ?_
  try simp only [Act.put,sA,sB,sC]
  refine wpAnyH_take (i:=8) (oi:=⟨_,_,_,_,_,_⟩) (v:=.int .i64 (u:Int)) rfl (by kernel_rfl) (by kernel_rfl) (by kernel_rfl) (fun _ _ _ h=>h) (Or.inl ⟨by rfl,fun w hSw=>by go_simp⟩) hHeld ?_
  try simp only [Act.put,sA,sB,sC]
  refine wpAnyH_ready (rs:=[2]) (by kernel_rfl) (by simp) ?_
  refine AllReadyH.cons (o:=⟨_,_,_,_,_,_⟩) rfl (fun K hK=>?_) AllReadyH.nil
  have hlp:=HLP.out wd (HBW.out.trans (hHeld.mono HBW.out.size))
  go_simp
  refine hlp.mono ?_
  rintro E w2 ⟨vp,rfl,hP,hb2⟩
  obtain ⟨g,cap,hv,hgB,hgl,hgc,hgm⟩:=hP.form hkk
  subst hv
  refine hK.out _ _ (hHeld.trans (hb2.mono hHeld.size)) (fun hHeld=>?_)
  clear hK K hlp hP hb2 hgB hgl
  refine wpAnyH_ready (rs:=[3]) (by kernel_rfl) (by simp) ?_
  refine AllReadyH.cons (o:=⟨_,_,_,_,_,_⟩) rfl (fun K hK=>?_) AllReadyH.nil
  go_simp
  refine hK.out _ _ hHeld (fun hHeld=>?_)
  clear hK K
  refine wpAnyH_ready (rs:=[4]) (by kernel_rfl) (by simp) ?_
  refine AllReadyH.cons (o:=⟨_,_,_,_,_,_⟩) rfl (fun K hK=>?_) AllReadyH.nil
  have hlf:=HLV.out w2 (HBW.out.trans (hHeld.mono HBW.out.size))
  go_simp
  refine hlf.mono ?_
  rintro E w2 ⟨R,c,ms,o,rfl,hrc1,hrc2,hF,hiff,hbl⟩
  refine hK.out _ _ (hHeld.trans (hbl.mono hHeld.size)) (fun hHeld=>?_)
  have HSZ:Hid (w1.heap.size≤w2.heap.size):=Lib.hid hHeld.size
  clear hK K hlf
  have c0:=hF.cell hk
  have hst:=hF.st k hk
  have hfa:=hst.fa (by omega)
  rw [hfa] at c0
  have c2:=hst.slot hul
  obtain ⟨hcf1,hcf2⟩:=hst.cf
  unfold maxLen at hcf2 hrc2
  have hfl:=hst.fl u hul
  have hcp:=hst.cp u hul
  have hk0:(0:Int)≤(k:Int):=by omega
  have hk1:(k:Int)<(ds.length:Int):=by omega
  have hu0:(0:Int)≤(u:Int):=by omega
  have hu1:(u:Int)<(ts.length:Int):=by omega
  have hnum:=l3Numbers_w ((ms k).bl u) (szQ 0 ds.length) ((ms k).cp u) (o k u) w2 (by show ds.length≤64;omega) hcp.1 hcp.2 hfl.lt hfl
  have hib:IsPathsB (TrIn 0 ts (u:Int) ds k) (firstN (o k u) (szQ 0 ds.length)):=isPathsB_of (by show ds.length≤64;omega) fun i=>by
   unfold TrIn
   rw [Int.toNat_natCast]
   exact ⟨fun h=>⟨by omega,by omega,(hiff k u i hk).mp h.2⟩,fun h=>⟨(TrB.dom HAT.out h.2.2).2,(hiff k u i hk).mpr h.2.2⟩⟩
  have HANS:=Lib.hid (HMK.out _ hib)
  clear hbl hib hfa hF hiff hst hfl
  refine wpAnyH_ready (rs:=[6]) (by kernel_rfl) (by simp) ?_
  refine AllReadyH.cons (o:=⟨_,_,_,_,_,_⟩) rfl (fun K hK=>?_) AllReadyH.nil
  go_simp
  refine hK.out _ _ hHeld (fun hHeld=>?_)
  clear hK K
  refine wpAnyH_ready (rs:=[7]) (by kernel_rfl) (by simp) ?_
  refine AllReadyH.cons (o:=⟨_,_,_,_,_,_⟩) rfl (fun K hK=>?_) AllReadyH.nil
  go_simp
  refine hK.out _ _ hHeld (fun hHeld=>?_)
  clear hK K
  refine wpAnyH_ready (rs:=[9]) (by kernel_rfl) (by simp) ?_
  refine AllReadyH.cons (o:=⟨_,_,_,_,_,_⟩) rfl (fun K hK=>?_) AllReadyH.nil
  go_simp
  refine hK.out _ _ hHeld (fun hHeld=>?_)
  clear hK K
  refine wpAnyH_ready (rs:=[10]) (by kernel_rfl) (by simp) ?_
  refine AllReadyH.cons (o:=⟨_,_,_,_,_,_⟩) rfl (fun K hK=>?_) AllReadyH.nil
  go_simp
  refine hK.out _ _ hHeld (fun hHeld=>?_)
  clear hK K
  refine wpAnyH_ready (rs:=[11]) (by kernel_rfl) (by simp) ?_
  refine AllReadyH.cons (o:=⟨_,_,_,_,_,_⟩) rfl (fun K hK=>?_) AllReadyH.nil
  go_simp
  refine hnum.mono ?_
  rintro E w3 ⟨vr,rfl,hrow,hb3⟩
  refine hK.out _ _ (hHeld.trans (hb3.mono hHeld.size)) (fun hHeld=>?_)
  have HROW:=Lib.hid (hrow.mono (B':=w.heap.size) (by have:=HBW.out.size;have:=HSZ.out;omega))
  clear hK K hnum hrow hb3 c0 c2 hcp
  refine wpAnyH_ready (rs:=[12]) (by kernel_rfl) (by simp) ?_
  refine AllReadyH.cons (o:=⟨_,_,_,_,_,_⟩) rfl (fun K hK=>?_) AllReadyH.nil
  go_simp
  refine hK.out _ _ hHeld (fun hHeld=>?_)
  clear hK K
  refine wpAnyH_done (by kernel_rfl) ?_ _
  have HBF:=Lib.hid (HBW.out.trans (hHeld.mono HBW.out.size))
  clear hHeld
  go_wp2_with fail
  go_ret
  exact ⟨_,_,rfl,HROW.out,HANS.out,HBF.out⟩
 ·rw [decide_eq_false hin] at hl3
  have hans:AnsAt (TrIn 0 ts v) (validB ts s) s a []:=by
   by_cases hin2:validB ts s=true∧0≤a∧a<((progPts s).length:Int)
   ·refine .inl ⟨hin2.1,hin2.2.1,hin2.2.2,fun _=>false,by simp,fun x=>⟨fun h=>(by cases h.2),fun h=>?_⟩⟩
    have h8:=(TrB.dom (progPts_allTyped hin2.1) h.2.2).1
    exact absurd ⟨hin2.1,hin2.2.1,hin2.2.2,h.1,by have:=h.1;omega⟩ hin
   ·exact .inr ⟨hin2,rfl⟩
  have HANS:=Lib.hid hans
  clear hans hT hR hin
  go_enter Tryz.func15,Tryz.ntmps15
  go_wp2_with fail
  refine hl3.mono ?_
  rintro E w1 ⟨rfl,hb1⟩
  rw [HZ.out] at hb1
  have hs1:=hb1.size
  rw [HZ.out] at hs1
  have hbw:Below w.heap.size w w1:=hb0.trans (hb1.mono (by omega))
  have hbe:Below w.heap.size w (w1.alloc (.cells #[] 3)):=hbw.alloc (by omega) _
  have hrow:RowI (w1.alloc (.cells #[] 3)) w.heap.size (.slice (some ⟨w1.heap.size,0,none⟩) 0 0) []:=World.ownsRow_lit (base:=w.heap.size) (e:=3) (size:=1) w1 #[] 0 (by omega) (by simp [maxLen]) rfl
  have HROW:=Lib.hid hrow
  clear hl3 hb1 hrow
  go_wp2_with fail
  go_ret
  exact ⟨_,_,rfl,HROW.out,HANS.out,hbe⟩
set_option maxRecDepth 100000 in
set_option maxHeartbeats 4000000 in
theorem specSettersOf_any (ts:List Int) (s:Sts) (At As:Option Addr) (ct cs:Nat) (a v:Int) (w:World) (hsz:s.size≤1048576) (hT:IntsV w 0 w.heap.size ts At ct) (hR:RepV w 0 w.heap.size s As cs) :
  Calls Tryz.prog 27 #[.agg #[.slice At ts.length ct,.slice As s.len cs],.int .i64 a,.int .i64 v] w fun E w'=>∃ v' l,E=.returned v'∧RowI w' w.heap.size v' l∧AnsAt (TrIn 1 ts v) (validB ts s) s a l∧Below w.heap.size w w':=by
 have hb0:=(Below.refl w.heap.size w).alloc (Nat.le_refl _) (.cells #[.slice At ts.length ct,.slice As s.len cs] 26)
 have hz0:(w.alloc (.cells #[.slice At ts.length ct,.slice As s.len cs] 26)).heap.size=w.heap.size+1:=by simp
 have hB0:=heap_alloc_new w (.cells #[.slice At ts.length ct,.slice As s.len cs] 26)
 have hl3:=l3Point_any ts s At As ct cs a v _ hsz (hT.below hb0 (by simp)) (hR.below hb0 (by simp))
 have HZ:=Lib.hid hz0
 have HB:=Lib.hid hB0
 clear hz0 hB0
 by_cases hin:validB ts s=true∧0≤a∧a<((progPts s).length:Int)∧0≤v∧v<(ts.length:Int)
 ·obtain ⟨h1,h0,h2,h3,h4⟩:=id hin
  rw [decide_eq_true hin] at hl3
  obtain ⟨k,rfl⟩:∃ k:Nat,a=(k:Int):=⟨a.toNat,by omega⟩
  obtain ⟨u,rfl⟩:∃ u:Nat,v=(u:Int):=⟨v.toNat,by omega⟩
  have hk:k<(progPts s).length:=by omega
  have hul:u<ts.length:=by omega
  have hAT:=progPts_allTyped h1
  have ht6:=hAT.1
  have hle:(progPts s).length≤61:=by
   have h8:=s.npts_le
   have h9:=valid_size h1
   rw [progPts_len]
   omega
  have hlp:∀ W:World,Below w.heap.size w W→Calls Tryz.prog 45 #[.agg #[.slice At ts.length ct,.slice As s.len cs]] W _:=fun W hW=>l2Points_any ts s At As ct cs W (by have:=valid_size h1;omega) (hR.below hW hW.size)
  have hlv:∀ W:World,Below w.heap.size w W→Calls Tryz.prog 44 #[.agg #[.slice At ts.length ct,.slice As s.len cs],.int .i64 1,.int .i64 ((progPts s).length:Nat)] W (LPost 1 ts (progPts s) W):=fun W hW=>l10Flow_any 1 (by decide) ts s At As ct cs W h1 (hT.below hW hW.size) (hR.below hW hW.size)
  have hmk:∀ l:List Int,IsPathsB (TrIn 1 ts (u:Int) (progPts s) k) l→AnsAt (TrIn 1 ts (u:Int)) (validB ts s) s (k:Int) l:=fun l hl=>.inl ⟨h1,by omega,h2,by rw [Int.toNat_natCast];exact hl⟩
  generalize progPts s=ds at hlp hlv hmk hk hAT hle
  have HLE:=Lib.hid hle
  have HLV:=Lib.hid hlv
  have HLP:=Lib.hid hlp
  have HMK:=Lib.hid hmk
  have HAT:=Lib.hid hAT
  have hkk:0<ds.length:=by omega
  clear hlv hmk hAT hT hR h0 h1 h2 h3 h4 hin hlp
  go_enter Tryz.func27,Tryz.ntmps27
  go_wp2_with fail
  refine hl3.mono ?_
  rintro E w1 ⟨rfl,hb1⟩
  rw [HZ.out] at hb1
  have hs1:=hb1.size
  rw [HZ.out] at hs1
  have hbw:Below w.heap.size w w1:=hb0.trans (hb1.mono (by omega))
  have hB1:=(hb1.block w.heap.size (by omega)).trans HB.out
  have HP0:Hid (w1.cell? ⟨w.heap.size,0,none⟩=some (.slice At ts.length ct)):=Lib.hid ((cB hB1 0).trans rfl)
  have HP1:Hid (w1.cell? ⟨w.heap.size,1,none⟩=some (.slice As s.len cs)):=Lib.hid ((cB hB1 1).trans rfl)
  have HLW:Hid (w.heap.size<w1.heap.size):=Lib.hid (by omega)
  have HBW:=Lib.hid hbw
  clear hl3 hb1 hB1 hbw hb0
  go_upto_region 3 with fail
  refine wp_region_held_drew (S:=(fun w9=>Below w1.heap.size w1 w9)) (by kernel_rfl) (Below.refl _ _).drew (fun hHeld=>?_)
  generalize hwd:w1.drew=wd at *
  clear hwd
  refine wpAnyH_take (i:=0) (oi:=⟨_,_,_,_,_,_⟩) (v:=.agg #[.slice At ts.length ct,.slice As s.len cs]) rfl (by kernel_rfl) (by kernel_rfl) (by kernel_rfl) (fun _ _ _ h=>h) (Or.inl ⟨by rfl,fun w9 hSw=>by have h9:=(hSw.cell (p:=⟨w.heap.size,0,none⟩) HLW.out).trans HP0.out;have h8:=(hSw.cell (p:=⟨w.heap.size,1,none⟩) HLW.out).trans HP1.out;go_simp⟩) hHeld ?_
  try simp only [Act.put,sA,sB,sC]
  refine wpAnyH_take (i:=1) (oi:=⟨_,_,_,_,_,_⟩) (v:=.agg #[.slice At ts.length ct,.slice As s.len cs]) rfl (by kernel_rfl) (by kernel_rfl) (by kernel_rfl) (fun _ _ _ h=>h) (Or.inl ⟨by rfl,fun w9 hSw=>by have h9:=(hSw.cell (p:=⟨w.heap.size,0,none⟩) HLW.out).trans HP0.out;have h8:=(hSw.cell (p:=⟨w.heap.size,1,none⟩) HLW.out).trans HP1.out;go_simp⟩) hHeld ?_
  try simp only [Act.put,sA,sB,sC]
  refine wpAnyH_take (i:=5) (oi:=⟨_,_,_,_,_,_⟩) (v:=.int .i64 (k:Int)) rfl (by kernel_rfl) (by kernel_rfl) (by kernel_rfl) (fun _ _ _ h=>h) (Or.inl ⟨by rfl,fun w hSw=>by go_simp⟩) hHeld ?_
  try simp only [Act.put,sA,sB,sC]
  refine wpAnyH_take (i:=8) (oi:=⟨_,_,_,_,_,_⟩) (v:=.int .i64 (u:Int)) rfl (by kernel_rfl) (by kernel_rfl) (by kernel_rfl) (fun _ _ _ h=>h) (Or.inl ⟨by rfl,fun w hSw=>by go_simp⟩) hHeld ?_
  try simp only [Act.put,sA,sB,sC]
  refine wpAnyH_ready (rs:=[2]) (by kernel_rfl) (by simp) ?_
  refine AllReadyH.cons (o:=⟨_,_,_,_,_,_⟩) rfl (fun K hK=>?_) AllReadyH.nil
  have hlp:=HLP.out wd (HBW.out.trans (hHeld.mono HBW.out.size))
  go_simp
  refine hlp.mono ?_
  rintro E w2 ⟨vp,rfl,hP,hb2⟩
  obtain ⟨g,cap,hv,hgB,hgl,hgc,hgm⟩:=hP.form hkk
  subst hv
  refine hK.out _ _ (hHeld.trans (hb2.mono hHeld.size)) (fun hHeld=>?_)
  clear hK K hlp hP hb2 hgB hgl
  refine wpAnyH_ready (rs:=[3]) (by kernel_rfl) (by simp) ?_
  refine AllReadyH.cons (o:=⟨_,_,_,_,_,_⟩) rfl (fun K hK=>?_) AllReadyH.nil
  go_simp
  refine hK.out _ _ hHeld (fun hHeld=>?_)
  clear hK K
  refine wpAnyH_ready (rs:=[4]) (by kernel_rfl) (by simp) ?_
  refine AllReadyH.cons (o:=⟨_,_,_,_,_,_⟩) rfl (fun K hK=>?_) AllReadyH.nil
  have hlf:=HLV.out w2 (HBW.out.trans (hHeld.mono HBW.out.size))
  go_simp
  refine hlf.mono ?_
  rintro E w2 ⟨R,c,ms,o,rfl,hrc1,hrc2,hF,hiff,hbl⟩
  refine hK.out _ _ (hHeld.trans (hbl.mono hHeld.size)) (fun hHeld=>?_)
  have HSZ:Hid (w1.heap.size≤w2.heap.size):=Lib.hid hHeld.size
  clear hK K hlf
  have c0:=hF.cell hk
  have hst:=hF.st k hk
  have hfa:=hst.fa (by omega)
  rw [hfa] at c0
  have c2:=hst.slot hul
  obtain ⟨hcf1,hcf2⟩:=hst.cf
  unfold maxLen at hcf2 hrc2
  have hfl:=hst.fl u hul
  have hcp:=hst.cp u hul
  have hk0:(0:Int)≤(k:Int):=by omega
  have hk1:(k:Int)<(ds.length:Int):=by omega
  have hu0:(0:Int)≤(u:Int):=by omega
  have hu1:(u:Int)<(ts.length:Int):=by omega
  have hnum:=l3Numbers_w ((ms k).bl u) (szQ 1 ds.length) ((ms k).cp u) (o k u) w2 (by show ds.length≤64;omega) hcp.1 hcp.2 hfl.lt hfl
  have hib:IsPathsB (TrIn 1 ts (u:Int) ds k) (firstN (o k u) (szQ 1 ds.length)):=isPathsB_of (by show ds.length≤64;omega) fun i=>by
   unfold TrIn
   rw [Int.toNat_natCast]
   exact ⟨fun h=>⟨by omega,by omega,(hiff k u i hk).mp h.2⟩,fun h=>⟨(TrB.dom HAT.out h.2.2).2,(hiff k u i hk).mpr h.2.2⟩⟩
  have HANS:=Lib.hid (HMK.out _ hib)
  clear hbl hib hfa hF hiff hst hfl
  refine wpAnyH_ready (rs:=[6]) (by kernel_rfl) (by simp) ?_
  refine AllReadyH.cons (o:=⟨_,_,_,_,_,_⟩) rfl (fun K hK=>?_) AllReadyH.nil
  go_simp
  refine hK.out _ _ hHeld (fun hHeld=>?_)
  clear hK K
  refine wpAnyH_ready (rs:=[7]) (by kernel_rfl) (by simp) ?_
  refine AllReadyH.cons (o:=⟨_,_,_,_,_,_⟩) rfl (fun K hK=>?_) AllReadyH.nil
  go_simp
  refine hK.out _ _ hHeld (fun hHeld=>?_)
  clear hK K
  refine wpAnyH_ready (rs:=[9]) (by kernel_rfl) (by simp) ?_
  refine AllReadyH.cons (o:=⟨_,_,_,_,_,_⟩) rfl (fun K hK=>?_) AllReadyH.nil
  go_simp
  refine hK.out _ _ hHeld (fun hHeld=>?_)
  clear hK K
  refine wpAnyH_ready (rs:=[10]) (by kernel_rfl) (by simp) ?_
  refine AllReadyH.cons (o:=⟨_,_,_,_,_,_⟩) rfl (fun K hK=>?_) AllReadyH.nil
  go_simp
  refine hK.out _ _ hHeld (fun hHeld=>?_)
  clear hK K
  refine wpAnyH_ready (rs:=[11]) (by kernel_rfl) (by simp) ?_
  refine AllReadyH.cons (o:=⟨_,_,_,_,_,_⟩) rfl (fun K hK=>?_) AllReadyH.nil
  go_simp
  refine hnum.mono ?_
  rintro E w3 ⟨vr,rfl,hrow,hb3⟩
  refine hK.out _ _ (hHeld.trans (hb3.mono hHeld.size)) (fun hHeld=>?_)
  have HROW:=Lib.hid (hrow.mono (B':=w.heap.size) (by have:=HBW.out.size;have:=HSZ.out;omega))
  clear hK K hnum hrow hb3 c0 c2 hcp
  refine wpAnyH_ready (rs:=[12]) (by kernel_rfl) (by simp) ?_
  refine AllReadyH.cons (o:=⟨_,_,_,_,_,_⟩) rfl (fun K hK=>?_) AllReadyH.nil
  go_simp
  refine hK.out _ _ hHeld (fun hHeld=>?_)
  clear hK K
  refine wpAnyH_done (by kernel_rfl) ?_ _
  have HBF:=Lib.hid (HBW.out.trans (hHeld.mono HBW.out.size))
  clear hHeld
  go_wp2_with fail
  go_ret
  exact ⟨_,_,rfl,HROW.out,HANS.out,HBF.out⟩
 ·rw [decide_eq_false hin] at hl3
  have hans:AnsAt (TrIn 1 ts v) (validB ts s) s a []:=by
   by_cases hin2:validB ts s=true∧0≤a∧a<((progPts s).length:Int)
   ·refine .inl ⟨hin2.1,hin2.2.1,hin2.2.2,fun _=>false,by simp,fun x=>⟨fun h=>(by cases h.2),fun h=>?_⟩⟩
    have h8:=(TrB.dom (progPts_allTyped hin2.1) h.2.2).1
    exact absurd ⟨hin2.1,hin2.2.1,hin2.2.2,h.1,by have:=h.1;omega⟩ hin
   ·exact .inr ⟨hin2,rfl⟩
  have HANS:=Lib.hid hans
  clear hans hT hR hin
  go_enter Tryz.func27,Tryz.ntmps27
  go_wp2_with fail
  refine hl3.mono ?_
  rintro E w1 ⟨rfl,hb1⟩
  rw [HZ.out] at hb1
  have hs1:=hb1.size
  rw [HZ.out] at hs1
  have hbw:Below w.heap.size w w1:=hb0.trans (hb1.mono (by omega))
  have hbe:Below w.heap.size w (w1.alloc (.cells #[] 3)):=hbw.alloc (by omega) _
  have hrow:RowI (w1.alloc (.cells #[] 3)) w.heap.size (.slice (some ⟨w1.heap.size,0,none⟩) 0 0) []:=World.ownsRow_lit (base:=w.heap.size) (e:=3) (size:=1) w1 #[] 0 (by omega) (by simp [maxLen]) rfl
  have HROW:=Lib.hid hrow
  clear hl3 hb1 hrow
  go_wp2_with fail
  go_ret
  exact ⟨_,_,rfl,HROW.out,HANS.out,hbe⟩
end Go.Proofs.YtdcldcffnkhegaaGreatDoor.tr
namespace Go.Proofs.YtdcldcffnkhegaaGreatDoor.tr
open Go.RowKit Go.Deep
set_option linter.unusedVariables false
theorem TrB.int {ts:List Int} {ns:List Nd} (hA:AllTyped ts ns) {m v l:Nat} (h:TrB 2 ts ns m v l):tyAt ts (v:Int)=1:=by
 induction h with
 | gen _ h =>
  obtain ⟨d,hd,hs,hg,_⟩:=h
  have hop:=set_op hs
  unfold gQ at hg
  rw [if_neg (by decide),if_neg (by decide)] at hg
  simp only [Bool.or_eq_true,Bool.and_eq_true,decide_eq_true_eq] at hg
  rcases hA.2 _ d hd with ⟨_,_,h3⟩ | ⟨h3,_⟩
  ·rw [← hop.2.2]
   rcases hg with ⟨h4,_⟩ | ⟨h4,_⟩ <;> rw [h4] at h3 <;> simp [simpleB] at h3 <;> omega
  ·omega
 | step _ _ h ih =>
  obtain ⟨_,_,⟨d,hd,hs,hq,hy⟩ | ⟨rfl,_⟩⟩:=h
  ·have hop:=set_op hs
   unfold hQ at hq
   rw [if_neg (by decide),if_neg (by decide),decide_eq_true_eq] at hq
   rw [← hy] at ih
   rw [← hop.2.2]
   rcases hA.2 _ d hd with ⟨_,_,h3⟩ | ⟨h3,_⟩
   ·rw [hq] at h3
    simp [simpleB] at h3
    omega
   ·omega
  ·exact ih
set_option maxRecDepth 100000 in
set_option maxHeartbeats 4000000 in
theorem specNumbersOf_any (ts:List Int) (s:Sts) (At As:Option Addr) (ct cs:Nat) (a v:Int) (w:World) (hsz:s.size≤1048576) (hT:IntsV w 0 w.heap.size ts At ct) (hR:RepV w 0 w.heap.size s As cs) :
  Calls Tryz.prog 36 #[.agg #[.slice At ts.length ct,.slice As s.len cs],.int .i64 a,.int .i64 v] w fun E w'=>∃ v' l,E=.returned v'∧RowI w' w.heap.size v' l∧AnsAt (TrIn 2 ts v) (validB ts s) s a l∧Below w.heap.size w w':=by
 have hb0:=(Below.refl w.heap.size w).alloc (Nat.le_refl _) (.cells #[.slice At ts.length ct,.slice As s.len cs] 26)
 have hz0:(w.alloc (.cells #[.slice At ts.length ct,.slice As s.len cs] 26)).heap.size=w.heap.size+1:=by simp
 have hB0:=heap_alloc_new w (.cells #[.slice At ts.length ct,.slice As s.len cs] 26)
 have hl3:=l3Point_any ts s At As ct cs a v _ hsz (hT.below hb0 (by simp)) (hR.below hb0 (by simp))
 have HZ:=Lib.hid hz0
 have HB:=Lib.hid hB0
 clear hz0 hB0
 by_cases hin:validB ts s=true∧0≤a∧a<((progPts s).length:Int)∧0≤v∧v<(ts.length:Int)
 ·obtain ⟨h1,h0,h2,h3,h4⟩:=id hin
  rw [decide_eq_true hin] at hl3
  obtain ⟨k,rfl⟩:∃ k:Nat,a=(k:Int):=⟨a.toNat,by omega⟩
  obtain ⟨u,rfl⟩:∃ u:Nat,v=(u:Int):=⟨v.toNat,by omega⟩
  have hk:k<(progPts s).length:=by omega
  have hul:u<ts.length:=by omega
  have hAT:=progPts_allTyped h1
  have ht6:=hAT.1
  have hle:(progPts s).length≤61:=by
   have h8:=s.npts_le
   have h9:=valid_size h1
   rw [progPts_len]
   omega
  obtain ⟨b,hAb,hbb,hcb⟩:=tyAt_elem hT hul
  have htm:=hT.2.1
  have htl:=hT.1
  unfold maxLen at htm
  have hlv:∀ W:World,Below w.heap.size w W→Calls Tryz.prog 44 #[.agg #[.slice At ts.length ct,.slice As s.len cs],.int .i64 2,.int .i64 10] W (LPost 2 ts (progPts s) W):=fun W hW=>l10Flow_any 2 (by decide) ts s At As ct cs W h1 (hT.below hW hW.size) (hR.below hW hW.size)
  have hmk:∀ l:List Int,IsPathsB (TrIn 2 ts (u:Int) (progPts s) k) l→AnsAt (TrIn 2 ts (u:Int)) (validB ts s) s (k:Int) l:=fun l hl=>.inl ⟨h1,by omega,h2,by rw [Int.toNat_natCast];exact hl⟩
  generalize progPts s=ds at hlv hmk hk hAT hle
  have HLE:=Lib.hid hle
  have HLV:=Lib.hid hlv
  have HMK:=Lib.hid hmk
  have HAT:=Lib.hid hAT
  have HCB:=Lib.hid hcb
  have HBB:=Lib.hid hbb
  obtain ⟨ty,hty⟩:∃ ty,ty=tyAt ts (u:Int):=⟨_,rfl⟩
  have HTY:=Lib.hid hty
  clear hlv hmk hAT hT hR h0 h1 h2 h3 h4 hin hcb hbb hty
  subst hAb
  go_enter Tryz.func36,Tryz.ntmps36
  go_wp2_with fail
  refine hl3.mono ?_
  rintro E w1 ⟨rfl,hb1⟩
  rw [HZ.out] at hb1
  have hs1:=hb1.size
  rw [HZ.out] at hs1
  have hbw:Below w.heap.size w w1:=hb0.trans (hb1.mono (by omega))
  have hB1:=(hb1.block w.heap.size (by omega)).trans HB.out
  have p0:w1.cell? ⟨w.heap.size,0,none⟩=some (.slice (some b) ts.length ct):=(cB hB1 0).trans rfl
  have p1:w1.cell? ⟨w.heap.size,1,none⟩=some (.slice As s.len cs):=(cB hB1 1).trans rfl
  have cb:w1.cell? (b.add u)=some (.int .i64 ty):=by rw [HTY.out];exact (hbw.cell (p:=b.add u) (by rw [block_add];exact HBB.out)).trans HCB.out
  have hu0:(0:Int)≤(u:Int):=by omega
  have hu1:(u:Int)<(ts.length:Int):=by omega
  have hk0:(0:Int)≤(k:Int):=by omega
  have hk1:(k:Int)<(ds.length:Int):=by omega
  by_cases ht:ty=1
  ·subst ht
   have hlf:=HLV.out w1 hbw
   clear hl3 hb1 hB1
   go_wp2_with fail
   refine hlf.mono ?_
   rintro E w2 ⟨R,c,ms,o,rfl,hrc1,hrc2,hF,hiff,hbl⟩
   have c0:=hF.cell hk
   have hst:=hF.st k hk
   have hfa:=hst.fa (by omega)
   rw [hfa] at c0
   have c2:=hst.slot hul
   obtain ⟨hcf1,hcf2⟩:=hst.cf
   unfold maxLen at hcf2 hrc2
   have hfl:=hst.fl u hul
   have hcp:=hst.cp u hul
   have hnum:=l3Numbers_w ((ms k).bl u) (szQ 2 ds.length) ((ms k).cp u) (o k u) w2 (by show 10≤64;omega) hcp.1 hcp.2 hfl.lt hfl
   have hib:IsPathsB (TrIn 2 ts (u:Int) ds k) (firstN (o k u) (szQ 2 ds.length)):=isPathsB_of (by show 10≤64;omega) fun i=>by
    unfold TrIn
    rw [Int.toNat_natCast]
    exact ⟨fun h=>⟨by omega,by omega,(hiff k u i hk).mp h.2⟩,fun h=>⟨(TrB.dom HAT.out h.2.2).2,(hiff k u i hk).mpr h.2.2⟩⟩
   have HANS:=Lib.hid (HMK.out _ hib)
   have hbls:=hbl.size
   have hbw2:Below w.heap.size w w2:=hbw.trans (hbl.mono (by omega))
   clear hlf hF hiff hfl hbl hib p0 p1 hcp hst hfa cb
   go_wp2_with fail
   refine hnum.mono ?_
   rintro E w3 ⟨vr,rfl,hrow,hb3⟩
   have HROW:=Lib.hid (hrow.mono (B':=w.heap.size) (by omega))
   have hbw3:Below w.heap.size w w3:=hbw2.trans (hb3.mono (by omega))
   clear hnum hrow hb3
   go_wp2_with fail
   go_ret
   exact ⟨_,_,rfl,HROW.out,HANS.out,hbw3⟩
  ·have htb:(ty != 1)=true:=by simp [ht]
   have htd:decide (ty=1)=false:=decide_eq_false ht
   have hib:IsPathsB (TrIn 2 ts (u:Int) ds k) []:=⟨fun _=>false,by simp,fun x=>⟨fun h=>(by cases h.2),fun h=>by
    have h9:=TrB.int HAT.out h.2.2
    rw [Int.toNat_natCast,← HTY.out] at h9
    exact absurd h9 ht⟩⟩
   have HANS:=Lib.hid (HMK.out _ hib)
   clear hib ht
   have hbe:Below w.heap.size w (w1.alloc (.cells #[] 3)):=hbw.alloc (by omega) _
   have hrow:RowI (w1.alloc (.cells #[] 3)) w.heap.size (.slice (some ⟨w1.heap.size,0,none⟩) 0 0) []:=World.ownsRow_lit (base:=w.heap.size) (e:=3) (size:=1) w1 #[] 0 (by omega) (by simp [maxLen]) rfl
   have HROW:=Lib.hid hrow
   clear hl3 hb1 hrow hB1
   go_wp2_with fail
   go_ret
   exact ⟨_,_,rfl,HROW.out,HANS.out,hbe⟩
 ·rw [decide_eq_false hin] at hl3
  have hans:AnsAt (TrIn 2 ts v) (validB ts s) s a []:=by
   by_cases hin2:validB ts s=true∧0≤a∧a<((progPts s).length:Int)
   ·refine .inl ⟨hin2.1,hin2.2.1,hin2.2.2,fun _=>false,by simp,fun x=>⟨fun h=>(by cases h.2),fun h=>?_⟩⟩
    have h8:=(TrB.dom (progPts_allTyped hin2.1) h.2.2).1
    exact absurd ⟨hin2.1,hin2.2.1,hin2.2.2,h.1,by have:=h.1;omega⟩ hin
   ·exact .inr ⟨hin2,rfl⟩
  have HANS:=Lib.hid hans
  clear hans hT hR hin
  go_enter Tryz.func36,Tryz.ntmps36
  go_wp2_with fail
  refine hl3.mono ?_
  rintro E w1 ⟨rfl,hb1⟩
  rw [HZ.out] at hb1
  have hs1:=hb1.size
  rw [HZ.out] at hs1
  have hbw:Below w.heap.size w w1:=hb0.trans (hb1.mono (by omega))
  have hbe:Below w.heap.size w (w1.alloc (.cells #[] 3)):=hbw.alloc (by omega) _
  have hrow:RowI (w1.alloc (.cells #[] 3)) w.heap.size (.slice (some ⟨w1.heap.size,0,none⟩) 0 0) []:=World.ownsRow_lit (base:=w.heap.size) (e:=3) (size:=1) w1 #[] 0 (by omega) (by simp [maxLen]) rfl
  have HROW:=Lib.hid hrow
  clear hl3 hb1 hrow
  go_wp2_with fail
  go_ret
  exact ⟨_,_,rfl,HROW.out,HANS.out,hbe⟩
end Go.Proofs.YtdcldcffnkhegaaGreatDoor.tr
