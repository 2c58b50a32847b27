/- LiveLoans of the model. -/
import Derived.Test.YtopibompapopiaaGreatDoorQLmoX
import Derived.Test.YtopibompapopiaaGreatDoorQL2Xb
import Derived.Test.YtopibompapopiaaGreatDoorQFwdG
import Derived.Test.YtopibompapopiaaGreatDoorQLplG
import Derived.Test.YtopibompapopiaaGreatDoorQL3V
import Derived.Deep.RegionHeld3
namespace Go.Proofs.YtopibompapopiaaGreatDoor
open Go.RowKit Go.Deep
set_option linter.unusedVariables false
theorem pRow_len_LiveLoans {w:World} {B:Nat} {v:Value} {ns:List Nd} (h:PRow w B v ns):∃ A c,v=.slice A ns.length c:=by
 obtain ⟨xs,ho,_⟩:=h
 rcases ho.2 with ⟨hv,h0⟩ | ⟨g,cap,cur,hv,_⟩
 ·exact ⟨none,0,by rw [hv,h0]⟩
 ·exact ⟨_,_,hv⟩
set_option maxRecDepth 100000 in
set_option maxHeartbeats 4000000 in
theorem specLiveLoans_any (ts:List Int) (s:Sts) (At As:Option Addr) (ct cs:Nat) (a:Int) (w:World) (hsz:s.size≤1048576) (hT:IntsV w 0 w.heap.size ts At ct) (hR:RepV w 0 w.heap.size s As cs) :
  Calls Tryz.prog 31 #[.agg #[.slice At ts.length ct,.slice As s.len cs],.int .i64 a] w fun E w'=>∃ v l,E=.returned v∧RowI w' w.heap.size v l∧AnsAt (LoLv ts) (validB ts s) s a l∧Below w.heap.size w w':=by
 have hb0:=(Below.refl w.heap.size w).alloc (Nat.le_refl _) (.cells #[.slice At ts.length ct,.slice As s.len cs] 26)
 have hz0:(w.alloc (.cells #[.slice At ts.length ct,.slice As s.len cs] 26)).heap.size=w.heap.size+1:=by simp
 have hB0:=heap_alloc_new w (.cells #[.slice At ts.length ct,.slice As s.len cs] 26)
 have hP0:=specPointsOf_any ts s At As ct cs _ hsz (hT.below hb0 (by simp)) (hR.below hb0 (by simp))
 have HZ:=Lib.hid hz0
 have HB:=Lib.hid hB0
 by_cases h0:a<0
 ·have hd:decide (a<0)=true:=decide_eq_true h0
  have hans:AnsAt (LoLv ts) (validB ts s) s a []:=.inr ⟨fun h=>by have:=h.2.1;omega,rfl⟩
  generalize pointsB (validB ts s) s=ds at hP0
  have HANS:=Lib.hid hans
  clear hans hz0 hB0 hT hR
  go_enter Tryz.func31,Tryz.ntmps31
  go_wp2_with fail
  refine hP0.mono ?_
  rintro E w1 ⟨v,rfl,hP,hb1⟩
  obtain ⟨Av,cv,hv⟩:=pRow_len_LiveLoans hP
  subst hv
  rw [HZ.out] at hb1
  have hs1:=hb1.size
  rw [HZ.out] at hs1
  have hbw:Below w.heap.size w w1:=hb0.trans (hb1.mono (by omega))
  have hbe:Below w.heap.size w (w1.alloc (.cells #[] 3)):=hbw.alloc (by omega) _
  have hrow:RowI (w1.alloc (.cells #[] 3)) w.heap.size (.slice (some ⟨w1.heap.size,0,none⟩) 0 0) []:=World.ownsRow_lit (base:=w.heap.size) (e:=3) (size:=1) w1 #[] 0 (by omega) (by simp [maxLen]) rfl
  have HROW:=Lib.hid hrow
  clear hP hb1 hP0 hrow
  go_wp2_with fail
  go_ret
  exact ⟨_,_,rfl,HROW.out,HANS.out,hbe⟩
 by_cases hin:validB ts s=true∧a<((progPts s).length:Int)
 ·obtain ⟨h1,h2⟩:=hin
  obtain ⟨k,rfl⟩:∃ k:Nat,a=(k:Int):=⟨a.toNat,by omega⟩
  have hk:k<(progPts s).length:=by omega
  have e0:pointsB (validB ts s) s=progPts s:=by simp [pointsB,h1]
  rw [e0] at hP0
  have hd:decide ((k:Int)<0)=false:=decide_eq_false h0
  have ht6:=(progPts_allTyped h1).1
  have hAT:=progPts_allTyped h1
  have hlv:∀ W:World,Below w.heap.size w W→Calls Tryz.prog 56 #[.agg #[.slice At ts.length ct,.slice As s.len cs]] W (L4Post ts (progPts s) W):=fun W hW=>l4Flow_any ts s At As ct cs W h1 (hT.below hW hW.size) (hR.below hW hW.size)
  have hll:∀ W:World,Below w.heap.size w W→Calls Tryz.prog 66 #[.agg #[.slice At ts.length ct,.slice As s.len cs]] W (LivePost ts (progPts s) W):=fun W hW=>l3Live_any ts s At As ct cs W h1 (hT.below hW hW.size) (hR.below hW hW.size)
  have HT:=Lib.hid hT
  have hmk:∀ l:List Int,IsPathsB (LoLv ts (progPts s) k) l→AnsAt (LoLv ts) (validB ts s) s (k:Int) l:=fun l hl=>.inl ⟨h1,by omega,h2,by rw [Int.toNat_natCast];exact hl⟩
  have hle:(progPts s).length≤61:=by
   have h8:=s.npts_le
   have h9:=valid_size h1
   rw [progPts_len]
   omega
  generalize progPts s=ds at hP0 hlv hll hmk hk hAT hle
  have HLE:=Lib.hid hle
  have HLV:=Lib.hid hlv
  have HMK:=Lib.hid hmk
  have HAT:=Lib.hid hAT
  have HLL:=Lib.hid hll
  clear hll hlv hmk hAT hz0 hB0 hT hR h0 h1 h2 e0
  go_enter Tryz.func31,Tryz.ntmps31
  go_wp2_with fail
  refine hP0.mono ?_
  rintro E w1 ⟨v,rfl,hP,hb1⟩
  obtain ⟨Av,cv,hv⟩:=pRow_len_LiveLoans hP
  subst hv
  rw [HZ.out] at hb1
  have hs1:=hb1.size
  rw [HZ.out] at hs1
  have hbw:Below w.heap.size w w1:=hb0.trans (hb1.mono (by omega))
  have hB1:=(hb1.block w.heap.size (by omega)).trans HB.out
  have p0:w1.cell? ⟨w.heap.size,0,none⟩=some (.slice At ts.length ct):=(cB hB1 0).trans rfl
  have p1:w1.cell? ⟨w.heap.size,1,none⟩=some (.slice As s.len cs):=(cB hB1 1).trans rfl
  have hbws:=hbw.size
  obtain ⟨g,cap,hgv,-,hgl,hgc,hgm⟩:=hP.form (by omega)
  injection hgv with hg1 _ hg2
  subst hg1 hg2
  obtain ⟨d,hd⟩:∃ d,ds[k]?=some d:=⟨ds[k],List.getElem?_eq_getElem hk⟩
  obtain ⟨u,⟨q0,q1,q2,q3,q4⟩,hu⟩:=hP.cells hd
  obtain ⟨An,cn,hsn⟩:=hu.asSlice
  subst hsn
  have hle0:ds.length≤61:=HLE.out
  have HP0:=Lib.hid p0
  have HP1:=Lib.hid p1
  have HQ0:=Lib.hid q0
  have HQ1:=Lib.hid q1
  have HQ2:=Lib.hid q2
  have HQ3:=Lib.hid q3
  have HQ4:=Lib.hid q4
  have HGL:=Lib.hid hgl
  have HLW:Hid (w.heap.size<w1.heap.size):=Lib.hid (by omega)
  have HIB:Hid (∀ (o:Nat→Nat→Bool) (live:Nat→Bool),(∀ v l,o v l=true↔LoanB ts ds k v l)→(∀ v,v<ts.length→(live v=true↔LiveB ts ds k v))→IsPathsB (LoLv ts ds k) (firstN (lvF ts d live o ts.length) ds.length)):=Lib.hid (fun o live ho hl=>isPathsB_of (by omega) fun i=>by
   rw [lvF_iff]
   have hlost:∀ v:Nat,lostN ts ds k v↔useI ts d (v:Int)=2∨setI d=(v:Int):=fun v=>or_congr (usesN_at hd v 2) (setsN_at hd v)
   constructor
   ·rintro ⟨hi,v,h1,h2,h3,h4,h5⟩
    exact ⟨v,by omega,(hl v h1).mp h2,fun h9=>((hlost v).mp h9).elim h4 h3,(ho v i).mp h5⟩
   ·rintro ⟨v,h1,h2,h3,h4⟩
    have hv:=LiveB.lt HAT.out h2
    exact ⟨(LoanB.dom HAT.out h4).2,v,hv,(hl v hv).mpr h2,fun h9=>h3 ((hlost v).mpr (.inr h9)),fun h9=>h3 ((hlost v).mpr (.inl h9)),(ho v i).mpr h4⟩)
  obtain ⟨hk0,hk1⟩:(0:Int)≤(k:Int)∧(k:Int)<(ds.length:Int):=by omega
  unfold maxLen at hgm
  clear hP hb1 hP0 hB1 p0 p1 q0 q1 q2 q3 q4 hu hd
  go_upto_region 4 with fail
  refine wp_region_held_drew (S:=fun w9=>Below w1.heap.size w1 w9) (by kernel_rfl) (Below.refl _ _).drew (fun hHeld=>?_)
  generalize w1.drew=wd at *
  refine wpAnyH_take (i:=0) (oi:=⟨_,_,_,_,_,_⟩) (v:=.pointer (some ⟨w.heap.size,0,none⟩)) rfl (by kernel_rfl) (by kernel_rfl) (by kernel_rfl) (fun _ _ _ h=>h) (Or.inl ⟨by rfl,fun w hSw=>by go_simp⟩) hHeld ?_
  try simp only [Act.put,sA,sB,sC]
  refine wpAnyH_take (i:=1) (oi:=⟨_,_,_,_,_,_⟩) (v:=.slice At ts.length ct) rfl (by kernel_rfl) (by kernel_rfl) (by kernel_rfl) (fun _ _ _ h=>h) (Or.inl ⟨by rfl,fun w9 hSw=>by have h9:=(hSw.cell (p:=⟨w.heap.size,0,none⟩) HLW.out).trans HP0.out;go_simp⟩) hHeld ?_
  try simp only [Act.put,sA,sB,sC]
  refine wpAnyH_take (i:=2) (oi:=⟨_,_,_,_,_,_⟩) (v:=.slice (some ⟨g,0,none⟩) ds.length cv) rfl (by kernel_rfl) (by kernel_rfl) (by kernel_rfl) (fun _ _ _ h=>h) (Or.inl ⟨by rfl,fun w hSw=>by go_simp⟩) hHeld ?_
  try simp only [Act.put,sA,sB,sC]
  refine wpAnyH_take (i:=3) (oi:=⟨_,_,_,_,_,_⟩) (v:=.int .i64 (k:Int)) rfl (by kernel_rfl) (by kernel_rfl) (by kernel_rfl) (fun _ _ _ h=>h) (Or.inl ⟨by rfl,fun w hSw=>by go_simp⟩) hHeld ?_
  try simp only [Act.put,sA,sB,sC]
  refine wpAnyH_take (i:=4) (oi:=⟨_,_,_,_,_,_⟩) (v:=.pointer (some ⟨g,k*5,none⟩)) rfl (by kernel_rfl) (by kernel_rfl) (by kernel_rfl) (fun _ _ _ h=>h) (Or.inl ⟨by rfl,fun w hSw=>by go_simp⟩) hHeld ?_
  try simp only [Act.put,sA,sB,sC]
  refine wpAnyH_take (i:=5) (oi:=⟨_,_,_,_,_,_⟩) (v:=.agg #[.int .i64 d.op,.int .i64 d.x,.int .i64 d.y,.int .i64 d.n,.slice An d.next.length cn]) rfl (by kernel_rfl) (by kernel_rfl) (by kernel_rfl) (fun _ _ _ h=>h) (Or.inl ⟨by rfl,fun w9 hSw=>by have h9:=(hSw.cell (p:=⟨g,k*5,none⟩) HGL.out).trans HQ0.out;have h8:=(hSw.cell (p:=⟨g,k*5+1,none⟩) HGL.out).trans HQ1.out;have h7:=(hSw.cell (p:=⟨g,k*5+2,none⟩) HGL.out).trans HQ2.out;have h6:=(hSw.cell (p:=⟨g,k*5+3,none⟩) HGL.out).trans HQ3.out;have h5:=(hSw.cell (p:=⟨g,k*5+4,none⟩) HGL.out).trans HQ4.out;go_simp⟩) hHeld ?_
  try simp only [Act.put,sA,sB,sC]
  refine wpAnyH_take (i:=6) (oi:=⟨_,_,_,_,_,_⟩) (v:=.agg #[.slice At ts.length ct,.slice As s.len cs]) rfl (by kernel_rfl) (by kernel_rfl) (by kernel_rfl) (fun _ _ _ h=>h) (Or.inl ⟨by rfl,fun w9 hSw=>by have h9:=(hSw.cell (p:=⟨w.heap.size,0,none⟩) HLW.out).trans HP0.out;have h8:=(hSw.cell (p:=⟨w.heap.size,1,none⟩) HLW.out).trans HP1.out;go_simp⟩) hHeld ?_
  try simp only [Act.put,sA,sB,sC]
  refine wpAnyH_take (i:=8) (oi:=⟨_,_,_,_,_,_⟩) (v:=.int .i64 (k:Int)) rfl (by kernel_rfl) (by kernel_rfl) (by kernel_rfl) (fun _ _ _ h=>h) (Or.inl ⟨by rfl,fun w hSw=>by go_simp⟩) hHeld ?_
  try simp only [Act.put,sA,sB,sC]
  refine wpAnyH_take (i:=11) (oi:=⟨_,_,_,_,_,_⟩) (v:=.agg #[.slice At ts.length ct,.slice As s.len cs]) rfl (by kernel_rfl) (by kernel_rfl) (by kernel_rfl) (fun _ _ _ h=>h) (Or.inl ⟨by rfl,fun w9 hSw=>by have h9:=(hSw.cell (p:=⟨w.heap.size,0,none⟩) HLW.out).trans HP0.out;have h8:=(hSw.cell (p:=⟨w.heap.size,1,none⟩) HLW.out).trans HP1.out;go_simp⟩) hHeld ?_
  try simp only [Act.put,sA,sB,sC]
  refine wpAnyH_take (i:=13) (oi:=⟨_,_,_,_,_,_⟩) (v:=.int .i64 (k:Int)) rfl (by kernel_rfl) (by kernel_rfl) (by kernel_rfl) (fun _ _ _ h=>h) (Or.inl ⟨by rfl,fun w hSw=>by go_simp⟩) hHeld ?_
  try simp only [Act.put,sA,sB,sC]
  refine wpAnyH_ready (rs:=[7]) (by kernel_rfl) (by simp) ?_
  refine AllReadyH.cons (o:=⟨_,_,_,_,_,_⟩) rfl (fun K hK=>?_) AllReadyH.nil
  have hlf:=HLV.out wd (hbw.trans (hHeld.mono hbws))
  go_simp
  refine hlf.mono ?_
  rintro E w2 ⟨R,c,ms,o,rfl,hrc1,hrc2,hF,hiff,hbl⟩
  have hzW:=hHeld.size
  refine hK.out _ _ (hHeld.trans (hbl.mono hzW)) (fun hHeld=>?_)
  have HF:=Lib.hid hF
  have HIF:=Lib.hid hiff
  unfold maxLen at hrc2
  clear hK K hlf hF hiff hbl hzW
  refine wpAnyH_take (i:=9) (oi:=⟨_,_,_,_,_,_⟩) (v:=.pointer (some ⟨R,k*2,none⟩)) rfl (by kernel_rfl) (by kernel_rfl) (by kernel_rfl) (fun _ _ _ h=>h) (Or.inl ⟨by rfl,fun w hSw=>by go_simp⟩) hHeld ?_
  try simp only [Act.put,sA,sB,sC]
  refine wpAnyH_ready (rs:=[10,12]) (by kernel_rfl) (by simp) ?_
  refine AllReadyH.cons (o:=⟨_,_,_,_,_,_⟩) rfl (fun K hK=>?_) ?_
  ·skip
   obtain ⟨r0,r1⟩:=HF.out.cells hk
   go_simp
   refine hK.out _ _ hHeld (fun hHeld=>?_)
   clear hK K r0 r1
   refine wpAnyH_ready (rs:=[12]) (by kernel_rfl) (by simp) ?_
   refine AllReadyH.cons (o:=⟨_,_,_,_,_,_⟩) rfl (fun K hK=>?_) AllReadyH.nil
   have hlf:=HLL.out w2 (hbw.trans (hHeld.mono hbws))
   go_simp
   refine hlf.mono ?_
   rintro E w3 ⟨g2,cap2,bl,lo,rfl,hnc,hcm,hM,hif2⟩
   have hzW:=hHeld.size
   refine hK.out _ _ (hHeld.trans (hM.below.mono hzW)) (fun hHeld=>?_)
   replace HF:=Lib.hid (HF.out.keep hM.below)
   have HIF2:=Lib.hid hif2
   have HLC:=Lib.hid (hM.cell hk)
   have HLF:=Lib.hid (hM.fl k hk).wide
   unfold maxLen at hcm
   clear hK K hlf hM hif2 hzW
   refine wpAnyH_take (i:=14) (oi:=⟨_,_,_,_,_,_⟩) (v:=.pointer (some ⟨g2,k,none⟩)) rfl (by kernel_rfl) (by kernel_rfl) (by kernel_rfl) (fun _ _ _ h=>h) (Or.inl ⟨by rfl,fun w hSw=>by go_simp⟩) hHeld ?_
   try simp only [Act.put,sA,sB,sC]
   refine wpAnyH_ready (rs:=[15]) (by kernel_rfl) (by simp) ?_
   refine AllReadyH.cons (o:=⟨_,_,_,_,_,_⟩) rfl (fun K hK=>?_) AllReadyH.nil
   have h9:=HLC.out
   go_simp
   refine hK.out _ _ hHeld (fun hHeld=>?_)
   clear hK K h9
   refine wpAnyH_ready (rs:=[16]) (by kernel_rfl) (by simp) ?_
   refine AllReadyH.cons (o:=⟨_,_,_,_,_,_⟩) rfl (fun K hK=>?_) AllReadyH.nil
   have hzW:=hHeld.size
   have hlf:=l4Live_any ts At ct d (.slice An d.next.length cn) _ ds.length (ms k) (o k) (bl k) ts.length (lo k) w3 ht6 hle0 (HT.out.below (hbw.trans (hHeld.mono hbws)) (Nat.le_trans hbws hzW)) (HF.out.st k hk) HLF.out (Nat.le_refl _) (by unfold maxLen;omega)
   unfold M4.val at hlf
   go_simp
   refine hlf.mono ?_
   rintro E w4 ⟨G,rfl,hGz,hGf,hb4⟩
   refine hK.out _ _ (hHeld.trans (hb4.mono hzW)) (fun hHeld=>?_)
   have HGF:=Lib.hid hGf
   clear hK K hlf hGf hb4 hzW HF HLC HLF hGz
   refine wpAnyH_ready (rs:=[17]) (by kernel_rfl) (by simp) ?_
   refine AllReadyH.cons (o:=⟨_,_,_,_,_,_⟩) rfl (fun K hK=>?_) AllReadyH.nil
   have hzW:=hHeld.size
   have hlf:=l3Numbers_w G ds.length ds.length _ w4 (by omega) (Nat.le_refl _) (by unfold maxLen;omega) HGF.out.lt HGF.out
   go_simp
   refine hlf.mono ?_
   rintro E w5 ⟨vr,rfl,hrow,hb5⟩
   refine hK.out _ _ (hHeld.trans (hb5.mono hzW)) (fun hHeld=>?_)
   have HROW:=Lib.hid (hrow.mono (B':=w.heap.size) (Nat.le_trans hbws hzW))
   clear hK K hlf hrow hb5 hzW
   refine wpAnyH_ready (rs:=[18]) (by kernel_rfl) (by simp) ?_
   refine AllReadyH.cons (o:=⟨_,_,_,_,_,_⟩) rfl (fun K hK=>?_) AllReadyH.nil
   go_simp
   refine hK.out _ _ hHeld (fun hHeld=>?_)
   clear hK K
   refine wpAnyH_done (by kernel_rfl) ?_ _
   have hib:IsPathsB (LoLv ts ds k) (firstN (lvF ts d (lo k) (o k) ts.length) ds.length):=HIB.out _ _ (fun v l=>HIF.out k v l hk) (fun v hv=>HIF2.out k v hk hv)
   have HANS:=HMK.out _ hib
   clear hib
   go_wp2_with fail
   go_ret
   exact ⟨_,_,rfl,HROW.out,HANS,hbw.trans (hHeld.mono hbws)⟩
  refine AllReadyH.cons (o:=⟨_,_,_,_,_,_⟩) rfl (fun K hK=>?_) AllReadyH.nil
  have hlf:=HLL.out w2 (hbw.trans (hHeld.mono hbws))
  go_simp
  refine hlf.mono ?_
  rintro E w3 ⟨g2,cap2,bl,lo,rfl,hnc,hcm,hM,hif2⟩
  have hzW:=hHeld.size
  refine hK.out _ _ (hHeld.trans (hM.below.mono hzW)) (fun hHeld=>?_)
  replace HF:=Lib.hid (HF.out.keep hM.below)
  have HIF2:=Lib.hid hif2
  have HLC:=Lib.hid (hM.cell hk)
  have HLF:=Lib.hid (hM.fl k hk).wide
  unfold maxLen at hcm
  clear hK K hlf hM hif2 hzW
  refine wpAnyH_take (i:=14) (oi:=⟨_,_,_,_,_,_⟩) (v:=.pointer (some ⟨g2,k,none⟩)) rfl (by kernel_rfl) (by kernel_rfl) (by kernel_rfl) (fun _ _ _ h=>h) (Or.inl ⟨by rfl,fun w hSw=>by go_simp⟩) hHeld ?_
  try simp only [Act.put,sA,sB,sC]
  refine wpAnyH_ready (rs:=[10,15]) (by kernel_rfl) (by simp) ?_
  refine AllReadyH.cons (o:=⟨_,_,_,_,_,_⟩) rfl (fun K hK=>?_) ?_
  ·skip
   obtain ⟨r0,r1⟩:=HF.out.cells hk
   go_simp
   refine hK.out _ _ hHeld (fun hHeld=>?_)
   clear hK K r0 r1
   refine wpAnyH_ready (rs:=[15]) (by kernel_rfl) (by simp) ?_
   refine AllReadyH.cons (o:=⟨_,_,_,_,_,_⟩) rfl (fun K hK=>?_) AllReadyH.nil
   have h9:=HLC.out
   go_simp
   refine hK.out _ _ hHeld (fun hHeld=>?_)
   clear hK K h9
   refine wpAnyH_ready (rs:=[16]) (by kernel_rfl) (by simp) ?_
   refine AllReadyH.cons (o:=⟨_,_,_,_,_,_⟩) rfl (fun K hK=>?_) AllReadyH.nil
   have hzW:=hHeld.size
   have hlf:=l4Live_any ts At ct d (.slice An d.next.length cn) _ ds.length (ms k) (o k) (bl k) ts.length (lo k) w3 ht6 hle0 (HT.out.below (hbw.trans (hHeld.mono hbws)) (Nat.le_trans hbws hzW)) (HF.out.st k hk) HLF.out (Nat.le_refl _) (by unfold maxLen;omega)
   unfold M4.val at hlf
   go_simp
   refine hlf.mono ?_
   rintro E w4 ⟨G,rfl,hGz,hGf,hb4⟩
   refine hK.out _ _ (hHeld.trans (hb4.mono hzW)) (fun hHeld=>?_)
   have HGF:=Lib.hid hGf
   clear hK K hlf hGf hb4 hzW HF HLC HLF hGz
   refine wpAnyH_ready (rs:=[17]) (by kernel_rfl) (by simp) ?_
   refine AllReadyH.cons (o:=⟨_,_,_,_,_,_⟩) rfl (fun K hK=>?_) AllReadyH.nil
   have hzW:=hHeld.size
   have hlf:=l3Numbers_w G ds.length ds.length _ w4 (by omega) (Nat.le_refl _) (by unfold maxLen;omega) HGF.out.lt HGF.out
   go_simp
   refine hlf.mono ?_
   rintro E w5 ⟨vr,rfl,hrow,hb5⟩
   refine hK.out _ _ (hHeld.trans (hb5.mono hzW)) (fun hHeld=>?_)
   have HROW:=Lib.hid (hrow.mono (B':=w.heap.size) (Nat.le_trans hbws hzW))
   clear hK K hlf hrow hb5 hzW
   refine wpAnyH_ready (rs:=[18]) (by kernel_rfl) (by simp) ?_
   refine AllReadyH.cons (o:=⟨_,_,_,_,_,_⟩) rfl (fun K hK=>?_) AllReadyH.nil
   go_simp
   refine hK.out _ _ hHeld (fun hHeld=>?_)
   clear hK K
   refine wpAnyH_done (by kernel_rfl) ?_ _
   have hib:IsPathsB (LoLv ts ds k) (firstN (lvF ts d (lo k) (o k) ts.length) ds.length):=HIB.out _ _ (fun v l=>HIF.out k v l hk) (fun v hv=>HIF2.out k v hk hv)
   have HANS:=HMK.out _ hib
   clear hib
   go_wp2_with fail
   go_ret
   exact ⟨_,_,rfl,HROW.out,HANS,hbw.trans (hHeld.mono hbws)⟩
  refine AllReadyH.cons (o:=⟨_,_,_,_,_,_⟩) rfl (fun K hK=>?_) AllReadyH.nil
  have h9:=HLC.out
  go_simp
  refine hK.out _ _ hHeld (fun hHeld=>?_)
  clear hK K h9
  refine wpAnyH_ready (rs:=[10]) (by kernel_rfl) (by simp) ?_
  refine AllReadyH.cons (o:=⟨_,_,_,_,_,_⟩) rfl (fun K hK=>?_) AllReadyH.nil
  obtain ⟨r0,r1⟩:=HF.out.cells hk
  go_simp
  refine hK.out _ _ hHeld (fun hHeld=>?_)
  clear hK K r0 r1
  refine wpAnyH_ready (rs:=[16]) (by kernel_rfl) (by simp) ?_
  refine AllReadyH.cons (o:=⟨_,_,_,_,_,_⟩) rfl (fun K hK=>?_) AllReadyH.nil
  have hzW:=hHeld.size
  have hlf:=l4Live_any ts At ct d (.slice An d.next.length cn) _ ds.length (ms k) (o k) (bl k) ts.length (lo k) w3 ht6 hle0 (HT.out.below (hbw.trans (hHeld.mono hbws)) (Nat.le_trans hbws hzW)) (HF.out.st k hk) HLF.out (Nat.le_refl _) (by unfold maxLen;omega)
  unfold M4.val at hlf
  go_simp
  refine hlf.mono ?_
  rintro E w4 ⟨G,rfl,hGz,hGf,hb4⟩
  refine hK.out _ _ (hHeld.trans (hb4.mono hzW)) (fun hHeld=>?_)
  have HGF:=Lib.hid hGf
  clear hK K hlf hGf hb4 hzW HF HLC HLF hGz
  refine wpAnyH_ready (rs:=[17]) (by kernel_rfl) (by simp) ?_
  refine AllReadyH.cons (o:=⟨_,_,_,_,_,_⟩) rfl (fun K hK=>?_) AllReadyH.nil
  have hzW:=hHeld.size
  have hlf:=l3Numbers_w G ds.length ds.length _ w4 (by omega) (Nat.le_refl _) (by unfold maxLen;omega) HGF.out.lt HGF.out
  go_simp
  refine hlf.mono ?_
  rintro E w5 ⟨vr,rfl,hrow,hb5⟩
  refine hK.out _ _ (hHeld.trans (hb5.mono hzW)) (fun hHeld=>?_)
  have HROW:=Lib.hid (hrow.mono (B':=w.heap.size) (Nat.le_trans hbws hzW))
  clear hK K hlf hrow hb5 hzW
  refine wpAnyH_ready (rs:=[18]) (by kernel_rfl) (by simp) ?_
  refine AllReadyH.cons (o:=⟨_,_,_,_,_,_⟩) rfl (fun K hK=>?_) AllReadyH.nil
  go_simp
  refine hK.out _ _ hHeld (fun hHeld=>?_)
  clear hK K
  refine wpAnyH_done (by kernel_rfl) ?_ _
  have hib:IsPathsB (LoLv ts ds k) (firstN (lvF ts d (lo k) (o k) ts.length) ds.length):=HIB.out _ _ (fun v l=>HIF.out k v l hk) (fun v hv=>HIF2.out k v hk hv)
  have HANS:=HMK.out _ hib
  clear hib
  go_wp2_with fail
  go_ret
  exact ⟨_,_,rfl,HROW.out,HANS,hbw.trans (hHeld.mono hbws)⟩
 ·have hd:decide (a<0)=false:=decide_eq_false h0
  have hans:AnsAt (LoLv ts) (validB ts s) s a []:=.inr ⟨fun h=>hin ⟨h.1,h.2.2⟩,rfl⟩
  have hle:((pointsB (validB ts s) s).length:Int)≤a:=by
   cases h1:validB ts s
   ·simp [pointsB]
    omega
   ·simp only [pointsB,if_true]
    rcases Int.lt_or_le a ((progPts s).length:Int) with h | h
    ·exact absurd ⟨h1,h⟩ hin
    ·exact h
  generalize pointsB (validB ts s) s=ds at hP0 hle
  have hd2:decide ((ds.length:Int)≤a)=true:=decide_eq_true hle
  have HANS:=Lib.hid hans
  clear hans hz0 hB0 hT hR hin
  go_enter Tryz.func31,Tryz.ntmps31
  go_wp2_with fail
  refine hP0.mono ?_
  rintro E w1 ⟨v,rfl,hP,hb1⟩
  obtain ⟨Av,cv,hv⟩:=pRow_len_LiveLoans hP
  subst hv
  rw [HZ.out] at hb1
  have hs1:=hb1.size
  rw [HZ.out] at hs1
  have hbw:Below w.heap.size w w1:=hb0.trans (hb1.mono (by omega))
  have hbe:Below w.heap.size w (w1.alloc (.cells #[] 3)):=hbw.alloc (by omega) _
  have hrow:RowI (w1.alloc (.cells #[] 3)) w.heap.size (.slice (some ⟨w1.heap.size,0,none⟩) 0 0) []:=World.ownsRow_lit (base:=w.heap.size) (e:=3) (size:=1) w1 #[] 0 (by omega) (by simp [maxLen]) rfl
  have HROW:=Lib.hid hrow
  clear hP hb1 hP0 hrow
  go_wp2_with fail
  go_ret
  exact ⟨_,_,rfl,HROW.out,HANS.out,hbe⟩
end Go.Proofs.YtopibompapopiaaGreatDoor
