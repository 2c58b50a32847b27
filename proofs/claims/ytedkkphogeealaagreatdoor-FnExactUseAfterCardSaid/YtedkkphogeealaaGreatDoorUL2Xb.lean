/- The model's search of paths,walked. -/
import Derived.Test.YtedkkphogeealaaGreatDoorUL2Xa
namespace Go.Proofs.YtedkkphogeealaaGreatDoor
open Go.RowKit Go.Deep
set_option linter.unusedVariables false
set_option maxRecDepth 100000
set_option maxHeartbeats 4000000
def FromPost (ns:List Nd) (a:Nat) (w:World) (E:Ending) (w':World):Prop:=∃ F fl,E=.returned (.slice (some ⟨F,0,none⟩) ns.length ns.length)∧w.heap.size≤F∧FlAt w' F ns.length fl∧(∀ i,(i<ns.length∧fl i=true)↔Reach (nextN ns) a i)∧Below w.heap.size w w'
theorem FlAt.start (w:World) (n:Nat):FlAt (w.alloc (.cells (madeCells #[.bool false] n) 4)) w.heap.size n (fun _=>false):=by
 refine ⟨_,heap_alloc_new w _,by simp [madeCells],fun i hi=>?_⟩
 simp [madeCells,hi,Nat.mod_one]
theorem l2From_any (q a g cap B:Nat) (ns:List Nd) (w:World) (hD:PtsOk q ns) (hle:ns.length≤61) (ha:a<ns.length) (hg:g<w.heap.size) (hP:PRow w B (.slice (some ⟨g,0,none⟩) ns.length cap) ns) :
  Calls Tryz.prog 52 #[.slice (some ⟨g,0,none⟩) ns.length cap,.int .i64 a] w (FromPost ns a w):=by
 obtain ⟨d,hd⟩:∃ d,ns[a]?=some d:=⟨ns[a],List.getElem?_eq_getElem ha⟩
 have hmk:=run_make_row' (P:=Tryz.prog) 72 4 (.bool false) 1 Tryz.underlying72 Tryz.infoBool rfl .i64 .i64 ns.length (by omega) (by omega) w
 have hfl:=FlAt.start w ns.length
 have hbw:=(Below.refl w.heap.size w).alloc (Nat.le_refl _) (.cells (madeCells #[.bool false] ns.length) 4)
 have hz1:(w.alloc (.cells (madeCells #[.bool false] ns.length) 4)).heap.size=w.heap.size+1:=by simp
 generalize w.alloc (.cells (madeCells #[.bool false] ns.length) 4)=w1 at hmk hfl hbw hz1
 have hP1:=hP.below hbw
 have hb2:=(Below.refl w1.heap.size w1).alloc (Nat.le_refl _) (.cells #[] 3)
 obtain ⟨u,⟨-,-,-,-,c4⟩,hu⟩:=(hP1.below hb2).cells hd
 have hrow0:RowI (w1.alloc (.cells #[] 3)) w.heap.size (.slice (some ⟨w1.heap.size,0,none⟩) 0 0) []:=World.ownsRow_lit (base:=w.heap.size) (e:=3) (size:=1) w1 #[] 0 (by omega) (by simp [maxLen]) rfl
 rw [hz1] at hrow0
 have hf2:=hfl.keep (hb2.block w.heap.size (by omega))
 have hbw2:=hbw.trans (hb2.mono (by omega))
 have hnr:=hu.row (nextN_two hD hd)
 have HP:=Lib.hid hP
 have HD:=Lib.hid hD
 have HDA:=Lib.hid hd
 have HNR:=Lib.hid hnr
 have HROW:=Lib.hid hrow0
 have HFL:=Lib.hid hf2
 have hnx:=nextN_ints hD hd
 have HNX:=Lib.hid hnx
 have htwo:=nextN_two hD hd
 clear hP hD hd hu hP1 hnr hrow0 hf2 hfl hnx hb2 hbw
 go_enter Tryz.func52,Tryz.ntmps52
 go_wp2_with (at_builtin;refine wpList_append_rows rfl _ _ rfl w.heap.size B _ _ [] d.next (by rfl) rfl HROW.out HNR.out ?ra1 ?ra2 ?_)
 try (case ra1=>simp;omega)
 try (case ra2=>simp;omega)
 intro v1 w2 hr2 hgr2
 have hbA:Below w.heap.size w w2:=hbw2.grown hgr2 (by simp;omega) (fun k hk=>((RowI.own HROW.out).lt k hk).1)
 have hF2:=HFL.out.keep (hgr2.block w.heap.size (by simp;omega) (fun e=>HFL.out.apart HROW.out e.symm))
 try rw [List.nil_append] at hr2
 have HST:Hid (∃ (W:List Nat) (fl:Nat→Bool),lenW v1=W.length∧RowI w2 w.heap.size v1 (intsW W)∧FlAt w2 w.heap.size ns.length fl∧Found (nextN ns) a (fun x=>x<ns.length∧fl x=true) W∧(∀ x∈W,x<ns.length)∧W.length+2*((List.range ns.length).filter fun i=>!fl i).length≤200∧Below w.heap.size w w2):=by
  refine ⟨nextN ns a,fun _=>false,?_,by rw [HNX.out.1];exact hr2,hF2,Found.start _ _ (fun x h=>by simp at h),HNX.out.2,?_,hbA⟩
  ·obtain ⟨A,c,hv⟩:=hr2.slice
   rw [hv,← intsW_length,HNX.out.1]
   rfl
  have:(nextN ns a).length≤2:=by rw [← intsW_length,HNX.out.1];exact htwo
  have h2:((List.range ns.length).filter fun i=>!(fun _=>false:Nat→Bool) i).length≤ns.length:=by
   have:=List.length_filter_le (fun i=>!(fun _=>false:Nat→Bool) i) (List.range ns.length)
   simpa using this
  omega
 clear hr2 hgr2 hF2 hbA
 go_wp2_with fail
 go_loopw [6] (fun p wr=>Hid (∃ (W:List Nat) (fl:Nat→Bool),lenW p=W.length∧RowI wr w.heap.size p (intsW W)∧FlAt wr w.heap.size ns.length fl∧Found (nextN ns) a (fun x=>x<ns.length∧fl x=true) W∧(∀ x∈W,x<ns.length)∧W.length+2*((List.range ns.length).filter fun i=>!fl i).length≤200∧Below w.heap.size w wr)) (fun p wr=>3*offs wr w.heap.size ns.length+lenW p)
 case atStart=>exact HST
 case round =>
  clear HST
  obtain ⟨W,fl,hlw,hrow,hfl,hF,hWn,hcnt,hb⟩:=hrel.out
  have hbz:=hb.size
  have HFL2:=Lib.hid hfl
  have HFD:=Lib.hid hF
  have HWN:=Lib.hid hWn
  have HCNT:=Lib.hid hcnt
  have hw200:W.length≤200:=by omega
  by_cases hW:W=[]
  ·subst hW
   obtain ⟨A,c,hv⟩:=hrow.slice
   have hl0:(intsW []).length=0:=rfl
   rw [hl0] at hv
   subst hv
   clear hrow hfl hF hWn hcnt hrel
   go_wp2_with fail
   go_ret
   exact ⟨w.heap.size,fl,rfl,Nat.le_refl _,HFL2.out,HFD.out.last,hb⟩
  ·obtain ⟨V,b,rfl⟩:=snoc_of hW
   obtain ⟨A,c,hv⟩:=hrow.slice
   have hrow2:RowI wr w.heap.size (.slice A ((intsW V).length+1) c) (intsW V++[(b:Int)]):=by
    have:=hrow
    rw [hv,intsW_snoc] at this
    simpa using this
   rw [intsW_length,List.length_append,List.length_cons,List.length_nil] at hv
   obtain ⟨hshort,g',hA,hlc,hcm,hcell⟩:=RowI.short hrow2
   subst hA
   rw [intsW_length] at hshort hlc hcell
   unfold maxLen at hcm
   rw [List.length_append,List.length_cons,List.length_nil] at hw200
   have hbn:b<ns.length:=hWn b (by simp)
   have hfb:=hfl.cell hbn
   have hsf:=hfl.soft b
   have hslc:∀ W,(Instr.sliceAt 22 (.slice (some ⟨g',0,none⟩) (V.length+1) c) none (some (.int .i64 (V.length:Int))) none).run Tryz.prog W=.ok (.slice (some ⟨g',0,none⟩) V.length c) W:=by
    intro W
    have he:Tryz.prog.elem 22=3:=by kernel_rfl
    have hz:(sizeOf 3).run Tryz.prog W=.ok 1 W:=by first | exact Tryz.sizeOf3 W | simp [Tryz.sizeOf3] | kernel_rfl
    rw [run_sliceAt_slice W 22 _ _ _ _ (by kernel_rfl),run_slice_h W 22 (some ⟨g',0,none⟩) (V.length+1) c (by kernel_rfl) .i64 (V.length:Int) (by omega) (by omega),he,hz]
    simp [sliced,Addr.add]
   have HSH:=Lib.hid hshort
   have hl1:((V.length:Int)+1-1)=(V.length:Int):=by omega
   clear hshort hrow hrow2 hfl hF hWn hcnt hW hlw hrel
   subst hv
   cases hflb:fl b
   ·rw [hflb] at hfb
    have hFP:=HFL2.out.put hbn
    have hap:=HFL2.out.apart HSH.out
    have hgS:wr.grownBy (wr.setCell ⟨w.heap.size,b,none⟩ (.bool true)) (some w.heap.size):=⟨rfl,rfl,rfl,by simp [World.setCell],fun k hk hne=>heap_setCell_other _ _ _ _ (fun e=>hne (by rw [e]))⟩
    have hRS:RowI (wr.setCell ⟨w.heap.size,b,none⟩ (.bool true)) w.heap.size (.slice (some ⟨g',0,none⟩) V.length c) (intsW V):=by
     have:=HSH.out.own.kept hgS (.inr hap)
     exact this
    have hbS:Below w.heap.size w (wr.setCell ⟨w.heap.size,b,none⟩ (.bool true)):=⟨hb.os,hb.tape,hb.output,by have:=hgS.size;omega,fun k hk=>(heap_setCell_other _ _ _ _ (by simp;omega)).trans (hb.block k hk)⟩
    obtain ⟨e,he⟩:∃ e,ns[b]?=some e:=⟨ns[b],List.getElem?_eq_getElem hbn⟩
    obtain ⟨u2,⟨-,-,-,-,c5⟩,hu2⟩:=(HP.out.below hbS).cells he
    have HN2:=Lib.hid (hu2.row (nextN_two HD.out he))
    have HNE:=Lib.hid (nextN_ints HD.out he)
    have he2:=nextN_two HD.out he
    have HRS:=Lib.hid hRS
    have HFP:=Lib.hid hFP
    have hbSz:=hbS.size
    clear hFP hgS hRS he hu2 c4
    go_wp2_with (at_builtin;refine wpList_append_rows rfl _ _ rfl w.heap.size B _ _ (intsW V) e.next (by rfl) rfl HRS.out HN2.out ?rb1 ?rb2 ?_)
    try (case rb1=>rw [intsW_length];omega)
    try (case rb2=>omega)
    intro v' w' hr' hgr'
    have hb':=hbS.grown hgr' (by omega) (fun k hk=>((RowI.own HRS.out).lt k hk).1)
    have hFL':=HFP.out.keep (hgr'.block w.heap.size (by have:=hgr'.size;have:=hb.size;have h9:=HFP.out.cell hbn;obtain ⟨cs9,h10,_⟩:=HFP.out;exact heap_lt h10) (fun e=>hap e.symm))
    go_wp2_with fail
    obtain ⟨A',c',hv'⟩:=hr'.slice
    have hlv:lenW v'=(V++nextN ns b).length:=by
     rw [hv',List.length_append,List.length_append,← HNE.out.1,intsW_length,intsW_length]
     rfl
    have hne2:(nextN ns b).length≤2:=by rw [← intsW_length,HNE.out.1];exact he2
    have hcs:=count_set fl b hflb ns.length hbn
    refine ⟨⟨V++nextN ns b,setFl fl b,hlv,by rw [intsW_append,HNE.out.1];exact hr',hFL',HFD.out.new (fun x=>?_),?_,?_,hb'⟩,?_⟩
    ·unfold setFl
     by_cases hxb:x=b
     ·subst hxb
      simp [hbn]
     ·simp [hxb]
    ·intro x hx
     rcases List.mem_append.mp hx with hx | hx
     ·exact HWN.out x (List.mem_append.mpr (.inl hx))
     ·exact HNE.out.2 x hx
    ·have:=HCNT.out
     rw [List.length_append] at this ⊢
     simp only [List.length_cons,List.length_nil] at this
     omega
    ·rw [hlv,hFL'.offs,HFL2.out.offs,List.length_append]
     simp only [lenW]
     omega
   ·rw [hflb] at hfb
    go_wp2_with fail
    refine ⟨⟨V,fl,rfl,HSH.out,HFL2.out,HFD.out.old ⟨hbn,hflb⟩,fun x hx=>HWN.out x (List.mem_append.mpr (.inl hx)),?_,hb⟩,?_⟩
    ·have:=HCNT.out
     rw [List.length_append] at this
     omega
    ·simp only [lenW]
     omega
theorem specPointsOf_any (ts:List Int) (s:Sts) (At As:Option Addr) (ct cs:Nat) (w:World) (hsz:s.size≤1048576) (hT:IntsV w 0 w.heap.size ts At ct) (hR:RepV w 0 w.heap.size s As cs) :
  Calls Tryz.prog 50 #[.agg #[.slice At ts.length ct,.slice As s.len cs]] w fun E w'=>∃ v,E=.returned v∧PRow w' w.heap.size v (pointsB (validB ts s) s)∧Below w.heap.size w w':=by
 have hb0:=(Below.refl w.heap.size w).alloc (Nat.le_refl _) (.cells #[.slice At ts.length ct,.slice As s.len cs] 30)
 have hT1:IntsV (w.alloc (.cells #[.slice At ts.length ct,.slice As s.len cs] 30)) 0 (w.alloc (.cells #[.slice At ts.length ct,.slice As s.len cs] 30)).heap.size ts At ct:=hT.below hb0 (by simp)
 have hR1:RepV (w.alloc (.cells #[.slice At ts.length ct,.slice As s.len cs] 30)) 0 (w.alloc (.cells #[.slice At ts.length ct,.slice As s.len cs] 30)).heap.size s As cs:=hR.below hb0 (by simp)
 have hc0:(w.alloc (.cells #[.slice At ts.length ct,.slice As s.len cs] 30)).heap[w.heap.size]?=_:=heap_alloc_new w _
 have HC:=Lib.hid hc0
 clear hc0
 by_cases h1:validB ts s=true
 ·have H1:=Lib.hid h1
  have e0:Hid (pointsB (validB ts s) s=progPts s):=by simp [Hid,pointsB,h1]
  have h30:s.size≤30:=by
   simp only [validB,Bool.and_eq_true,decide_eq_true_eq] at h1
   exact h1.2.2
  clear h1
  go_enter Tryz.func50,Tryz.ntmps50
  go_wp2_with fail
  refine (specProgramValid_any ts s At As ct cs _ hsz hT1 hR1).mono ?_
  rintro E w1 ⟨he,hb1⟩
  rw [H1.out] at he
  subst he
  have hb1':=hb1.block w.heap.size (by simp)
  rw [HC.out] at hb1'
  have d0:w1.cell? ⟨w.heap.size,0,none⟩=some (.slice At ts.length ct):=(cB hb1' 0).trans rfl
  have d1:w1.cell? ⟨w.heap.size,1,none⟩=some (.slice As s.len cs):=(cB hb1' 1).trans rfl
  have hs1:=hb1.size
  have hb:Below w.heap.size w w1:=hb0.trans (hb1.mono (by simp))
  have hR2:=hR.below hb hb.size
  clear hb1' hb1 hT1 hR1
  go_wp2_with fail
  refine (l2Points_any ts s At As ct cs _ (by omega) hR2).mono ?_
  rintro E w2 ⟨v,rfl,hP,hb2⟩
  have HP:=Lib.hid hP
  clear hP
  go_wp2_with fail
  go_ret
  refine ⟨_,rfl,?_,hb.trans (hb2.mono hb.size)⟩
  rw [e0.out]
  exact HP.out.mono hb.size
 ·have H1:Hid (validB ts s=false):=by unfold Hid;simpa using h1
  have e0:Hid (pointsB (validB ts s) s=[]):=by simp [Hid,pointsB,h1]
  clear h1
  go_enter Tryz.func50,Tryz.ntmps50
  go_wp2_with fail
  refine (specProgramValid_any ts s At As ct cs _ hsz hT1 hR1).mono ?_
  rintro E w1 ⟨he,hb1⟩
  rw [H1.out] at he
  subst he
  have hb:Below w.heap.size w w1:=hb0.trans (hb1.mono (by simp))
  have HP:=Lib.hid (PRow.nil (w:=w1) (B:=w.heap.size) hb.size)
  go_wp2_with fail
  go_ret
  exact ⟨_,rfl,by rw [e0.out];exact HP.out,hb.alloc hb.size _⟩
end Go.Proofs.YtedkkphogeealaaGreatDoor
