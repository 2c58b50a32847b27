/- CellsOf,SettersOf and NumbersOf of the model. -/
import Derived.Test.YtofcdecpipgmjaaGreatDoorRTrF
import Derived.Test.YtofcdecpipgmjaaGreatDoorRTrI
import Derived.Test.YtofcdecpipgmjaaGreatDoorRL2Xb
import Derived.Test.YtofcdecpipgmjaaGreatDoorRFwdG
import Derived.Test.YtofcdecpipgmjaaGreatDoorRL3P
import Derived.Deep.RegionHeld3
namespace Go.Proofs.YtofcdecpipgmjaaGreatDoor.tr
open Go.RowKit Go.Deep
set_option linter.unusedVariables false
end Go.Proofs.YtofcdecpipgmjaaGreatDoor.tr
namespace Go.Proofs.YtofcdecpipgmjaaGreatDoor.tr
open Go.RowKit Go.Deep
set_option linter.unusedVariables false
end Go.Proofs.YtofcdecpipgmjaaGreatDoor.tr
namespace Go.Proofs.YtofcdecpipgmjaaGreatDoor.tr
open Go.RowKit Go.Deep
set_option linter.unusedVariables false
def reachT (ts:List Int) (s:Sts) (a v:Int) (l:Nat):Prop:=0≤v∧v<6∧TrAt 0 ts (validB ts s) s a v.toNat l
noncomputable def mayB (ts:List Int) (s:Sts) (a v u:Int):Bool:=@decide (∃ l,reachT ts s a v l∧reachT ts s a u l) (Classical.propDecidable _)
theorem mayB_iff {ts:List Int} {s:Sts} {a v u:Int}:mayB ts s a v u=true↔∃ l,reachT ts s a v l∧reachT ts s a u l:=by
 unfold mayB
 exact @decide_eq_true_iff _ (Classical.propDecidable _)
theorem mayB_of {ts:List Int} {s:Sts} {a v u:Int} {b:Bool} (h:b=true↔∃ l,reachT ts s a v l∧reachT ts s a u l):mayB ts s a v u=b:=by
 rw [Bool.eq_iff_iff,mayB_iff,h]
theorem ofZ_bit {ts:List Int} {s:Sts} {a v:Int} {x:Nat→Nat} (hx:∀ u,u<6→∀ l,(bitR x u l↔TrAt 0 ts (validB ts s) s a u l)) (l:Nat):(ofZ x v).testBit l=true↔reachT ts s a v l:=by
 unfold ofZ reachT
 by_cases hv:0≤v∧v≤5
 ·rw [if_pos hv]
  exact (hx v.toNat (by omega) l).trans ⟨fun h=>⟨hv.1,by omega,h⟩,fun h=>h.2.2⟩
 ·rw [if_neg hv]
  constructor
  ·intro h
   simp at h
  ·intro h
   exact absurd ⟨h.1,by omega⟩ hv
theorem and_any {A B:Nat}:A&&&B≠0↔∃ l,A.testBit l=true∧B.testBit l=true:=by
 constructor
 ·intro h
  refine Classical.byContradiction fun h9=>h (nil_of fun l hl=>h9 ⟨l,?_⟩)
  rw [Nat.testBit_and,Bool.and_eq_true] at hl
  exact hl
 ·rintro ⟨l,h1,h2⟩ h
  have h9:(A&&&B).testBit l=true:=by rw [Nat.testBit_and,h1,h2];rfl
  rw [h] at h9
  simp at h9
set_option maxRecDepth 100000 in
set_option maxHeartbeats 4000000 in
theorem implMayAlias_any (ts:List Int) (s:Sts) (At As:Option Addr) (ct cs:Nat) (a v u:Int) (w:World) (hT:IntsV w 0 w.heap.size ts At ct) (hR:RepV w 0 w.heap.size s As cs) (hTab:TabAt 0 Lib.deBruijn64tab w) (hg:0<w.heap.size) :
  Calls Tryz.prog 23 #[.agg #[.slice At ts.length ct,.slice As s.len cs],.int .i64 a,.int .i64 v,.int .i64 u] w fun E w'=>E=.returned (.bool (mayB ts s a v u))∧Below w.heap.size w w':=by
 have hb0:=(Below.refl w.heap.size w).alloc (Nat.le_refl _) (.cells #[.slice At ts.length ct,.slice As s.len cs] 26)
 have hz0:(w.alloc (.cells #[.slice At ts.length ct,.slice As s.len cs] 26)).heap.size=w.heap.size+1:=by simp
 have hat:Calls Tryz.prog 39 #[.agg #[.slice At ts.length ct,.slice As s.len cs],.int .i64 a,.iface 60 (.agg #[])] (w.alloc (.cells #[.slice At ts.length ct,.slice As s.len cs] 26)) (AnsPer 0 ts s a (w.alloc (.cells #[.slice At ts.length ct,.slice As s.len cs] 26))):=answersAt_any 0 (by decide) ts s At As ct cs a _ (hT.below hb0 (by simp)) (hR.below hb0 (by simp)) (tab_below hTab hg hb0) (by rw [hz0];omega)
 have HZ:=Lib.hid hz0
 clear hz0 hT hR
 go_enter Tryz.func23,Tryz.ntmps23
 go_wp2_with fail
 refine hat.mono ?_
 rintro E w1 ⟨x,rfl,hx,hbit,hb1⟩
 rw [HZ.out] at hb1
 have hb:Below w.heap.size w w1:=hb0.trans (hb1.mono (by omega))
 have hv1:=fun l=>ofZ_bit (v:=v) hbit l
 have hu1:=fun l=>ofZ_bit (v:=u) hbit l
 obtain ⟨Z,hZ⟩:∃ Z,Z=ofZ x v&&&ofZ x u:=⟨_,rfl⟩
 have hand:=bits_and_u64_nat (ofZ x v) (ofZ x u) (ofZ_lt hx v) (ofZ_lt hx u)
 have hmay:(∃ l,reachT ts s a v l∧reachT ts s a u l)↔Z≠0:=by
  rw [hZ,and_any]
  exact exists_congr fun l=>by rw [hv1,hu1]
 rw [← hZ] at hand
 have HAND:=Lib.hid hand
 have HMAY:=Lib.hid hmay
 have hn:=PerAt.new w1 (fun _=>0)
 have hba:=(Below.refl w1.heap.size w1).alloc (Nat.le_refl _) (.cells #[.int .u64 0,.int .u64 0,.int .u64 0,.int .u64 0,.int .u64 0,.int .u64 0] 57)
 have HTH:Hid ((w1.alloc (.cells #[.int .u64 0,.int .u64 0,.int .u64 0,.int .u64 0,.int .u64 0,.int .u64 0] 57)).there w1.heap.size 0 6):=Lib.hid hn.there
 have hall:PerAt ((w1.alloc (.cells #[.int .u64 0,.int .u64 0,.int .u64 0,.int .u64 0,.int .u64 0,.int .u64 0] 57)).setCells w1.heap.size 0 (perC x)) w1.heap.size x:=PerAt.all hn x
 have hbs:=below_setCells (b:=w1.heap.size) (o:=0) (vs:=perC x) hba (Nat.le_refl _) (by simp)
 have HALL:=Lib.hid hall
 have HBB:Hid (Below w.heap.size w ((w1.alloc (.cells #[.int .u64 0,.int .u64 0,.int .u64 0,.int .u64 0,.int .u64 0,.int .u64 0] 57)).setCells w1.heap.size 0 (perC x))):=Lib.hid (hb.trans (hbs.mono hb.size))
 have hiV:Hid ((Tryz.prog.info? 57).map (·.size)=some 6):=by exact (show (Tryz.prog.info? 57).map (·.size)=some 6 from by kernel_rfl)
 clear hat hb1 hb0 hbit hx hb hv1 hu1 hZ hand hmay hn hba hall hbs
 go_upto_region 2 with (((with_reducible show wpList _ _ _ _ _ _);refine wpList_store_mid rfl 57 _ _ rfl w1.heap.size 0 (perC x).toArray rfl rfl ?_ hiV.out (perC_one _) ?_;exact HTH.out))
 obtain ⟨BC,hBC⟩:∃ BC,BC=w1.heap.size:=⟨_,rfl⟩
 rw [← hBC] at HALL HBB HTH ⊢
 generalize (w1.alloc (.cells #[.int .u64 0,.int .u64 0,.int .u64 0,.int .u64 0,.int .u64 0,.int .u64 0] 57)).setCells BC 0 _=w2 at *
 clear HTH hBC
 refine wp_region_held_drew (S:=fun w9=>PerAt w9 BC x) (by kernel_rfl) (show PerAt w2.drew BC x from HALL.out.same rfl) (fun hHeld=>?_)
 replace HBB:=Lib.hid HBB.out.drew
 generalize hwd:w2.drew=wd at *
 clear hwd HALL
 refine wpAnyH_take (i:=0) (oi:=⟨_,_,_,_,_,_⟩) (v:=.agg (perC x).toArray) rfl (by kernel_rfl) (by kernel_rfl) (by kernel_rfl) (fun _ _ _ h=>h) (yieldsIf_load_mid (by rfl) _ _ rfl BC 0 rfl (perC x) _ (fun w' h=>h.range) Tryz.underlying57 rfl (by kernel_rfl)) hHeld ?_
 try simp only [Act.put,sA,sB,sC]
 refine wpAnyH_take (i:=1) (oi:=⟨_,_,_,_,_,_⟩) (v:=.int .i64 v) rfl (by kernel_rfl) (by kernel_rfl) (by kernel_rfl) (fun _ _ _ h=>h) (Or.inl ⟨by rfl,fun w hSw=>by go_simp⟩) hHeld ?_
 try simp only [Act.put,sA,sB,sC]
 refine wpAnyH_take (i:=3) (oi:=⟨_,_,_,_,_,_⟩) (v:=.agg (perC x).toArray) rfl (by kernel_rfl) (by kernel_rfl) (by kernel_rfl) (fun _ _ _ h=>h) (yieldsIf_load_mid (by rfl) _ _ rfl BC 0 rfl (perC x) _ (fun w' h=>h.range) Tryz.underlying57 rfl (by kernel_rfl)) hHeld ?_
 try simp only [Act.put,sA,sB,sC]
 refine wpAnyH_take (i:=4) (oi:=⟨_,_,_,_,_,_⟩) (v:=.int .i64 u) rfl (by kernel_rfl) (by kernel_rfl) (by kernel_rfl) (fun _ _ _ h=>h) (Or.inl ⟨by rfl,fun w hSw=>by go_simp⟩) hHeld ?_
 try simp only [Act.put,sA,sB,sC]
 have hand:=HAND.out
 by_cases hz:Z=0
 ·have HANS:Hid (mayB ts s a v u=false):=Lib.hid (mayB_of ⟨fun h=>(by cases h),fun h=>absurd hz (HMAY.out.mp h)⟩)
  subst hz
  refine wpAnyH_ready (rs:=[2]) (by kernel_rfl) (by simp) ?_
  refine AllReadyH.cons (o:=⟨_,_,_,_,_,_⟩) rfl (fun K hK=>?_) AllReadyH.nil
  have hc:=of_any x v wd
  go_simp
  refine hc.mono ?_
  rintro E w3 ⟨rfl,hbq⟩
  refine hK.out _ _ (hHeld.keep hbq) (fun hHeld=>?_)
  replace HBB:=Lib.hid (HBB.out.trans (hbq.mono HBB.out.size))
  clear hK K hc hbq
  refine wpAnyH_ready (rs:=[5]) (by kernel_rfl) (by simp) ?_
  refine AllReadyH.cons (o:=⟨_,_,_,_,_,_⟩) rfl (fun K hK=>?_) AllReadyH.nil
  have hc:=of_any x u w3
  go_simp
  refine hc.mono ?_
  rintro E w4 ⟨rfl,hbq⟩
  refine hK.out _ _ (hHeld.keep hbq) (fun hHeld=>?_)
  replace HBB:=Lib.hid (HBB.out.trans (hbq.mono HBB.out.size))
  clear hK K hc hbq
  refine wpAnyH_take (i:=6) (oi:=⟨_,_,_,_,_,_⟩) (v:=.int .u64 ((0:Nat):Int)) rfl (by kernel_rfl) (by kernel_rfl) (by kernel_rfl) (fun _ _ _ h=>h) (Or.inl ⟨by rfl,fun w hSw=>by go_simp⟩) hHeld ?_
  try simp only [Act.put,sA,sB,sC]
  refine wpAnyH_take (i:=7) (oi:=⟨_,_,_,_,_,_⟩) (v:=.bool false) rfl (by kernel_rfl) (by kernel_rfl) (by kernel_rfl) (fun _ _ _ h=>h) (Or.inl ⟨by rfl,fun w hSw=>by go_simp⟩) hHeld ?_
  try simp only [Act.put,sA,sB,sC]
  refine wpAnyH_ready (rs:=[8]) (by kernel_rfl) (by simp) ?_
  refine AllReadyH.cons (o:=⟨_,_,_,_,_,_⟩) rfl (fun K hK=>?_) AllReadyH.nil
  go_simp
  refine hK.out _ _ hHeld (fun hHeld=>?_)
  clear hK K
  refine wpAnyH_done (by kernel_rfl) ?_ _
  clear hHeld
  go_wp2_with fail
  go_ret
  exact ⟨(by rw [HANS.out];try rfl),by first | exact HBB.out | exact HBB.out.drew⟩
 ·have HANS:Hid (mayB ts s a v u=true):=Lib.hid (mayB_of ⟨fun _=>HMAY.out.mpr hz,fun _=>rfl⟩)
  have hzb:((Z:Int) != 0)=true:=by simp;omega
  have hzd:decide ((Z:Int)=0)=false:=decide_eq_false (by omega)
  refine wpAnyH_ready (rs:=[2]) (by kernel_rfl) (by simp) ?_
  refine AllReadyH.cons (o:=⟨_,_,_,_,_,_⟩) rfl (fun K hK=>?_) AllReadyH.nil
  have hc:=of_any x v wd
  go_simp
  refine hc.mono ?_
  rintro E w3 ⟨rfl,hbq⟩
  refine hK.out _ _ (hHeld.keep hbq) (fun hHeld=>?_)
  replace HBB:=Lib.hid (HBB.out.trans (hbq.mono HBB.out.size))
  clear hK K hc hbq
  refine wpAnyH_ready (rs:=[5]) (by kernel_rfl) (by simp) ?_
  refine AllReadyH.cons (o:=⟨_,_,_,_,_,_⟩) rfl (fun K hK=>?_) AllReadyH.nil
  have hc:=of_any x u w3
  go_simp
  refine hc.mono ?_
  rintro E w4 ⟨rfl,hbq⟩
  refine hK.out _ _ (hHeld.keep hbq) (fun hHeld=>?_)
  replace HBB:=Lib.hid (HBB.out.trans (hbq.mono HBB.out.size))
  clear hK K hc hbq
  refine wpAnyH_take (i:=6) (oi:=⟨_,_,_,_,_,_⟩) (v:=.int .u64 (Z:Int)) rfl (by kernel_rfl) (by kernel_rfl) (by kernel_rfl) (fun _ _ _ h=>h) (Or.inl ⟨by rfl,fun w hSw=>by go_simp⟩) hHeld ?_
  try simp only [Act.put,sA,sB,sC]
  refine wpAnyH_take (i:=7) (oi:=⟨_,_,_,_,_,_⟩) (v:=.bool true) rfl (by kernel_rfl) (by kernel_rfl) (by kernel_rfl) (fun _ _ _ h=>h) (Or.inl ⟨by rfl,fun w hSw=>by go_simp⟩) hHeld ?_
  try simp only [Act.put,sA,sB,sC]
  refine wpAnyH_ready (rs:=[8]) (by kernel_rfl) (by simp) ?_
  refine AllReadyH.cons (o:=⟨_,_,_,_,_,_⟩) rfl (fun K hK=>?_) AllReadyH.nil
  go_simp
  refine hK.out _ _ hHeld (fun hHeld=>?_)
  clear hK K
  refine wpAnyH_done (by kernel_rfl) ?_ _
  clear hHeld
  go_wp2_with fail
  go_ret
  exact ⟨(by rw [HANS.out];try rfl),by first | exact HBB.out | exact HBB.out.drew⟩
set_option maxRecDepth 100000 in
set_option maxHeartbeats 4000000 in
theorem specMayAlias_any (ts:List Int) (s:Sts) (At As:Option Addr) (ct cs:Nat) (a v u:Int) (w:World) (hsz:s.size≤1048576) (hT:IntsV w 0 w.heap.size ts At ct) (hR:RepV w 0 w.heap.size s As cs) :
  Calls Tryz.prog 24 #[.agg #[.slice At ts.length ct,.slice As s.len cs],.int .i64 a,.int .i64 v,.int .i64 u] w fun E w'=>E=.returned (.bool (mayB ts s a v u))∧Below w.heap.size w w':=by
 have hb0:=(Below.refl w.heap.size w).alloc (Nat.le_refl _) (.cells #[.slice At ts.length ct,.slice As s.len cs] 26)
 have hz0:(w.alloc (.cells #[.slice At ts.length ct,.slice As s.len cs] 26)).heap.size=w.heap.size+1:=by simp
 have hB0:=heap_alloc_new w (.cells #[.slice At ts.length ct,.slice As s.len cs] 26)
 have hl3:∀ (x:Int) (W:World),Below w.heap.size w W→Calls Tryz.prog 42 #[.agg #[.slice At ts.length ct,.slice As s.len cs],.int .i64 a,.int .i64 x] W _:=fun x W hW=>l3Point_any ts s At As ct cs a x W hsz (hT.below hW hW.size) (hR.below hW hW.size)
 have HL3:=Lib.hid hl3
 have HZ:=Lib.hid hz0
 have HB:=Lib.hid hB0
 have hno:∀ x:Int,¬ (validB ts s=true∧0≤a∧a<((progPts s).length:Int)∧0≤x∧x<(ts.length:Int))→∀ l,¬ reachT ts s a x l:=fun x hx l h=>by
  obtain ⟨h1,h2,h3,h4,h5,h6⟩:=h
  have h8:=(TrB.dom (progPts_allTyped h3) h6).1
  exact hx ⟨h3,h4,h5,h1,by omega⟩
 clear hz0 hB0 hl3
 by_cases hv:validB ts s=true∧0≤a∧a<((progPts s).length:Int)∧0≤v∧v<(ts.length:Int)
 ·have hlv:=HL3.out v _ hb0
  rw [decide_eq_true hv] at hlv
  by_cases hu:validB ts s=true∧0≤a∧a<((progPts s).length:Int)∧0≤u∧u<(ts.length:Int)
  ·obtain ⟨h1,h0,h2,h3,h4⟩:=id hv
   obtain ⟨-,-,-,h5,h6⟩:=id hu
   have hlu:∀ W:World,Below w.heap.size w W→Calls Tryz.prog 42 #[.agg #[.slice At ts.length ct,.slice As s.len cs],.int .i64 a,.int .i64 u] W _:=fun W hW=>HL3.out u W hW
   rw [decide_eq_true hu] at hlu
   obtain ⟨k,rfl⟩:∃ k:Nat,a=(k:Int):=⟨a.toNat,by omega⟩
   obtain ⟨x,rfl⟩:∃ x:Nat,v=(x:Int):=⟨v.toNat,by omega⟩
   obtain ⟨y,rfl⟩:∃ y:Nat,u=(y:Int):=⟨u.toNat,by omega⟩
   have hk:k<(progPts s).length:=by omega
   have hxl:x<ts.length:=by omega
   have hyl:y<ts.length:=by omega
   have hAT:=progPts_allTyped h1
   have ht6:=hAT.1
   have hle:(progPts s).length≤61:=by
    have h8:=s.npts_le
    have h9:=valid_size h1
    rw [progPts_len]
    omega
   have hlp:∀ W:World,Below w.heap.size w W→Calls Tryz.prog 45 #[.agg #[.slice At ts.length ct,.slice As s.len cs]] W _:=fun W hW=>l2Points_any ts s At As ct cs W (by have:=valid_size h1;omega) (hR.below hW hW.size)
   have hlf:∀ W:World,Below w.heap.size w W→Calls Tryz.prog 44 #[.agg #[.slice At ts.length ct,.slice As s.len cs],.int .i64 0,.int .i64 ((progPts s).length:Nat)] W (LPost 0 ts (progPts s) W):=fun W hW=>l10Flow_any 0 (by decide) ts s At As ct cs W h1 (hT.below hW hW.size) (hR.below hW hW.size)
   have hmk:∀ z l:Nat,z<ts.length→(reachT ts s (k:Int) (z:Int) l↔TrB 0 ts (progPts s) k z l):=fun z l hz=>by
    unfold reachT TrAt
    rw [Int.toNat_natCast,Int.toNat_natCast]
    exact ⟨fun h=>h.2.2.2.2.2,fun h=>⟨by omega,by omega,h1,h0,h2,h⟩⟩
   have hb2:∀ b:Bool,(b=true↔∃ l,TrB 0 ts (progPts s) k x l∧TrB 0 ts (progPts s) k y l)→mayB ts s (k:Int) (x:Int) (y:Int)=b:=fun b hb=>mayB_of (hb.trans (exists_congr fun l=>by rw [hmk x l hxl,hmk y l hyl]))
   generalize progPts s=ds at hlp hlf hk hAT hle hb2
   have HLP:=Lib.hid hlp
   have HLF:=Lib.hid hlf
   have HLU:=Lib.hid hlu
   have HB2:=Lib.hid hb2
   have HAT:=Lib.hid hAT
   have hkk:0<ds.length:=by omega
   clear hlp hlf hlu hmk hb2 hAT hv hu h0 h1 h2 h3 h4 h5 h6 hno hT hR HL3
   go_enter Tryz.func24,Tryz.ntmps24
   go_wp2_with fail
   refine hlv.mono ?_
   rintro E w1 ⟨rfl,hb1⟩
   rw [HZ.out] at hb1
   have hs1:=hb1.size
   rw [HZ.out] at hs1
   have hbw:Below w.heap.size w w1:=hb0.trans (hb1.mono (by omega))
   have hB1:=(hb1.block w.heap.size (by omega)).trans HB.out
   have p0:w1.cell? ⟨w.heap.size,0,none⟩=some (.slice At ts.length ct):=(cB hB1 0).trans rfl
   have p1:w1.cell? ⟨w.heap.size,1,none⟩=some (.slice As s.len cs):=(cB hB1 1).trans rfl
   have hlu:=HLU.out w1 hbw
   have HBW1:=Lib.hid hbw
   have HBL1:=Lib.hid hB1
   have HLW1:Hid (w.heap.size<w1.heap.size):=Lib.hid (by omega)
   clear hlv hb1 hB1 hbw hb0
   go_wp2_with fail
   refine hlu.mono ?_
   rintro E w2 ⟨rfl,hb2⟩
   have hB2:=(hb2.block w.heap.size HLW1.out).trans HBL1.out
   have HP0:Hid (w2.cell? ⟨w.heap.size,0,none⟩=some (.slice At ts.length ct)):=Lib.hid ((cB hB2 0).trans rfl)
   have HP1:Hid (w2.cell? ⟨w.heap.size,1,none⟩=some (.slice As s.len cs)):=Lib.hid ((cB hB2 1).trans rfl)
   have HLW:Hid (w.heap.size<w2.heap.size):=Lib.hid (Nat.lt_of_lt_of_le HLW1.out hb2.size)
   have HBW:=Lib.hid (HBW1.out.trans (hb2.mono HBW1.out.size))
   clear hlu hb2 hB2 p0 p1 HBW1 HBL1 HLW1
   go_upto_region 3 with fail
   refine wp_region_held_drew (S:=(fun w9=>Below w2.heap.size w2 w9)) (by kernel_rfl) (Below.refl _ _).drew (fun hHeld=>?_)
   generalize hwd:w2.drew=wd at *
   clear hwd
   refine wpAnyH_take (i:=0) (oi:=⟨_,_,_,_,_,_⟩) (v:=.agg #[.slice At ts.length ct,.slice As s.len cs]) rfl (by kernel_rfl) (by kernel_rfl) (by kernel_rfl) (fun _ _ _ h=>h) (Or.inl ⟨by rfl,fun w9 hSw=>by have h9:=(hSw.cell (p:=⟨w.heap.size,0,none⟩) HLW.out).trans HP0.out;have h8:=(hSw.cell (p:=⟨w.heap.size,1,none⟩) HLW.out).trans HP1.out;go_simp⟩) hHeld ?_
   try simp only [Act.put,sA,sB,sC]
   refine wpAnyH_take (i:=1) (oi:=⟨_,_,_,_,_,_⟩) (v:=.agg #[.slice At ts.length ct,.slice As s.len cs]) rfl (by kernel_rfl) (by kernel_rfl) (by kernel_rfl) (fun _ _ _ h=>h) (Or.inl ⟨by rfl,fun w9 hSw=>by have h9:=(hSw.cell (p:=⟨w.heap.size,0,none⟩) HLW.out).trans HP0.out;have h8:=(hSw.cell (p:=⟨w.heap.size,1,none⟩) HLW.out).trans HP1.out;go_simp⟩) hHeld ?_
   try simp only [Act.put,sA,sB,sC]
   refine wpAnyH_take (i:=5) (oi:=⟨_,_,_,_,_,_⟩) (v:=.int .i64 (k:Int)) rfl (by kernel_rfl) (by kernel_rfl) (by kernel_rfl) (fun _ _ _ h=>h) (Or.inl ⟨by rfl,fun w hSw=>by go_simp⟩) hHeld ?_
   try simp only [Act.put,sA,sB,sC]
   refine wpAnyH_ready (rs:=[2]) (by kernel_rfl) (by simp) ?_
   refine AllReadyH.cons (o:=⟨_,_,_,_,_,_⟩) rfl (fun K hK=>?_) AllReadyH.nil
   have hlp:=HLP.out wd (HBW.out.trans (hHeld.mono HBW.out.size))
   go_simp
   refine hlp.mono ?_
   rintro E w3 ⟨vp,rfl,hP,hb2⟩
   obtain ⟨g,cap,hv,hgB,hgl,hgc,hgm⟩:=hP.form hkk
   subst hv
   refine hK.out _ _ (hHeld.trans (hb2.mono hHeld.size)) (fun hHeld=>?_)
   clear hK K hlp hP hb2 hgB hgl
   refine wpAnyH_ready (rs:=[3]) (by kernel_rfl) (by simp) ?_
   refine AllReadyH.cons (o:=⟨_,_,_,_,_,_⟩) rfl (fun K hK=>?_) AllReadyH.nil
   go_simp
   refine hK.out _ _ hHeld (fun hHeld=>?_)
   clear hK K
   refine wpAnyH_ready (rs:=[4]) (by kernel_rfl) (by simp) ?_
   refine AllReadyH.cons (o:=⟨_,_,_,_,_,_⟩) rfl (fun K hK=>?_) AllReadyH.nil
   have hlf:=HLF.out w3 (HBW.out.trans (hHeld.mono HBW.out.size))
   go_simp
   refine hlf.mono ?_
   rintro E w4 ⟨R,c,ms,o,rfl,hrc1,hrc2,hF,hiff,hbl⟩
   refine hK.out _ _ (hHeld.trans (hbl.mono hHeld.size)) (fun hHeld=>?_)
   clear hK K hlf
   have c0:=hF.cell hk
   have hst:=hF.st k hk
   have hfa:=hst.fa (by omega)
   rw [hfa] at c0
   have sx:=hst.slot hxl
   have sy:=hst.slot hyl
   obtain ⟨hcf1,hcf2⟩:=hst.cf
   unfold maxLen at hcf2 hrc2
   have HFX:=Lib.hid (hst.fl x hxl)
   have HFY:=Lib.hid (hst.fl y hyl)
   obtain ⟨hx1,hx2⟩:=hst.cp x hxl
   obtain ⟨hy1,hy2⟩:=hst.cp y hyl
   have hzn:szQ 0 ds.length=ds.length:=rfl
   rw [hzn] at sx sy HFX HFY hx1 hy1
   unfold maxLen at hx2 hy2
   have hk0:(0:Int)≤(k:Int):=by omega
   have hk1:(k:Int)<(ds.length:Int):=by omega
   have hx0:(0:Int)≤(x:Int):=by omega
   have hxi:(x:Int)<(ts.length:Int):=by omega
   have hy0:(0:Int)≤(y:Int):=by omega
   have hyi:(y:Int)<(ts.length:Int):=by omega
   have HOX:Hid (∀ l,o k x l=true↔TrB 0 ts ds k x l):=Lib.hid (fun l=>hiff k x l hk)
   have HOY:Hid (∀ l,o k y l=true↔TrB 0 ts ds k y l):=Lib.hid (fun l=>hiff k y l hk)
   have HDM:Hid (∀ l,TrB 0 ts ds k x l→l<ds.length):=Lib.hid (fun l h=>(TrB.dom HAT.out h).2)
   clear hbl hfa hF hiff hst hzn
   refine wpAnyH_ready (rs:=[6]) (by kernel_rfl) (by simp) ?_
   refine AllReadyH.cons (o:=⟨_,_,_,_,_,_⟩) rfl (fun K hK=>?_) AllReadyH.nil
   go_simp
   refine hK.out _ _ hHeld (fun hHeld=>?_)
   clear hK K
   refine wpAnyH_ready (rs:=[7]) (by kernel_rfl) (by simp) ?_
   refine AllReadyH.cons (o:=⟨_,_,_,_,_,_⟩) rfl (fun K hK=>?_) AllReadyH.nil
   go_simp
   refine hK.out _ _ hHeld (fun hHeld=>?_)
   clear hK K
   refine wpAnyH_ready (rs:=[8]) (by kernel_rfl) (by simp) ?_
   refine AllReadyH.cons (o:=⟨_,_,_,_,_,_⟩) rfl (fun K hK=>?_) AllReadyH.nil
   go_simp
   refine hK.out _ _ hHeld (fun hHeld=>?_)
   clear hK K
   refine wpAnyH_done (by kernel_rfl) ?_ _
   have HBF:=Lib.hid (HBW.out.trans (hHeld.mono HBW.out.size))
   clear hHeld c0
   go_wp2_with fail
   go_loopw [10] (fun i wr=>wr=w4∧∃ j:Nat,i=.int .i64 j∧j≤ds.length∧Hid (∀ l,l<j→o k x l=true→o k y l=false)) (fun i _=>ds.length-(intOf i).toNat)
   case atStart=>exact ⟨rfl,0,rfl,Nat.zero_le _,Lib.hid (fun l hl=>absurd hl (Nat.not_lt_zero _))⟩
   case round =>
    obtain ⟨rfl,j,rfl,hj,HN⟩:=hrel
    by_cases hjl:j<ds.length
    ·have cx:=HFX.out.cell hjl
     have cy:=HFY.out.cell hjl
     have hj0:(0:Int)≤(j:Int):=by omega
     have hj1:(j:Int)<(ds.length:Int):=by omega
     obtain ⟨bx,hbx⟩:∃ b,b=o k x j:=⟨_,rfl⟩
     obtain ⟨by_,hby⟩:∃ b,b=o k y j:=⟨_,rfl⟩
     rw [← hbx] at cx
     rw [← hby] at cy
     by_cases hxy:bx=true∧by_=true
     ·obtain ⟨rfl,rfl⟩:=hxy
      have HT:Hid (mayB ts s (k:Int) (x:Int) (y:Int)=true):=Lib.hid (HB2.out true ⟨fun _=>⟨j,(HOX.out j).mp hbx.symm,(HOY.out j).mp hby.symm⟩,fun _=>rfl⟩)
      clear hbx hby HN
      go_wp2_with fail
      go_ret
      exact ⟨(by rw [HT.out];try rfl),by first | exact HBF.out | exact HBF.out.drew⟩
     ·have HNX:Hid (∀ l,l<j+1→o k x l=true→o k y l=false):=Lib.hid (fun l hl hx=>by
       by_cases hlj:l=j
       ·subst hlj
        rw [← hbx] at hx
        rw [← hby]
        cases by_
        ·rfl
        ·exact absurd ⟨hx,rfl⟩ hxy
       ·exact HN.out l (by omega) hx)
      have hcases:bx=false∨(bx=true∧by_=false):=by
       cases bx <;> cases by_ <;> simp_all
      clear hbx hby hxy HN
      rcases hcases with rfl | ⟨rfl,rfl⟩
      all_goals
       go_wp2_with fail
       refine ⟨⟨trivial,j+1,by simp,by omega,HNX⟩,?_⟩
       simp only [intOf]
       omega
    ·have hje:j=ds.length:=by omega
     have HT:Hid (mayB ts s (k:Int) (x:Int) (y:Int)=false):=Lib.hid (HB2.out false ⟨fun h=>(by cases h),fun h=>by
      obtain ⟨l,h1,h2⟩:=h
      have h9:=HN.out l (by have:=HDM.out l h1;omega) ((HOX.out l).mpr h1)
      rw [(HOY.out l).mpr h2] at h9
      cases h9⟩)
     clear HN
     subst hje
     go_wp2_with fail
     go_ret
     exact ⟨(by rw [HT.out];try rfl),by first | exact HBF.out | exact HBF.out.drew⟩
  ·have hlu:∀ W:World,Below w.heap.size w W→Calls Tryz.prog 42 #[.agg #[.slice At ts.length ct,.slice As s.len cs],.int .i64 a,.int .i64 u] W _:=fun W hW=>HL3.out u W hW
   rw [decide_eq_false hu] at hlu
   have HT:Hid (mayB ts s a v u=false):=Lib.hid (mayB_of ⟨fun h=>(by cases h),fun h=>by obtain ⟨l,_,h2⟩:=h;exact absurd h2 (hno u hu l)⟩)
   have HLU:=Lib.hid hlu
   clear hlu hno hv hu hT hR HL3
   go_enter Tryz.func24,Tryz.ntmps24
   go_wp2_with fail
   refine hlv.mono ?_
   rintro E w1 ⟨rfl,hb1⟩
   rw [HZ.out] at hb1
   have hs1:=hb1.size
   rw [HZ.out] at hs1
   have hbw:Below w.heap.size w w1:=hb0.trans (hb1.mono (by omega))
   have hB1:=(hb1.block w.heap.size (by omega)).trans HB.out
   have p0:w1.cell? ⟨w.heap.size,0,none⟩=some (.slice At ts.length ct):=(cB hB1 0).trans rfl
   have p1:w1.cell? ⟨w.heap.size,1,none⟩=some (.slice As s.len cs):=(cB hB1 1).trans rfl
   have hlu:=HLU.out w1 hbw
   have HBW:=Lib.hid hbw
   clear hlv hb1 hB1 hbw hb0
   go_wp2_with fail
   refine hlu.mono ?_
   rintro E w2 ⟨rfl,hb2⟩
   have HBF:=Lib.hid (HBW.out.trans (hb2.mono HBW.out.size))
   clear hlu hb2 p0 p1
   go_wp2_with fail
   go_ret
   exact ⟨(by rw [HT.out];try rfl),by first | exact HBF.out | exact HBF.out.drew⟩
 ·have hlv:=HL3.out v _ hb0
  rw [decide_eq_false hv] at hlv
  have HT:Hid (mayB ts s a v u=false):=Lib.hid (mayB_of ⟨fun h=>(by cases h),fun h=>by obtain ⟨l,h1,_⟩:=h;exact absurd h1 (hno v hv l)⟩)
  clear hno hv hT hR HL3
  go_enter Tryz.func24,Tryz.ntmps24
  go_wp2_with fail
  refine hlv.mono ?_
  rintro E w1 ⟨rfl,hb1⟩
  rw [HZ.out] at hb1
  have HBF:Hid (Below w.heap.size w w1):=Lib.hid (hb0.trans (hb1.mono (by omega)))
  clear hlv hb1 hb0
  go_wp2_with fail
  go_ret
  exact ⟨(by rw [HT.out];try rfl),by first | exact HBF.out | exact HBF.out.drew⟩
end Go.Proofs.YtofcdecpipgmjaaGreatDoor.tr
