/-
  The model's PointsOf.
  The model's search of paths, walked.
  The model's PathsFrom.
  The model's PathsFrom where there is nothing to answer.
  The model's PathsTo.
  The model's PathsTo where there is nothing to answer.
-/
import Derived.Test.YtbffldgiccijlaaGreatDoorZL2Xa
import Derived.Test.YtbffldgiccijlaaGreatDoorZBase
import Derived.Test.YtbffldgiccijlaaGreatDoorZStmtY
namespace Go.Proofs.YtbffldgiccijlaaGreatDoor
open Go.RowKit Go.Deep
set_option linter.unusedVariables false

set_option maxHeartbeats 1000000 in
theorem specPointsOf_any (ts : List Int) (s : Sts) (At As : Option Addr) (ct cs : Nat) (w : World) (hsz : s.size ≤ 1048576) (hT : IntsV w 0 w.heap.size ts At ct) (hR : RepV w 0 w.heap.size s As cs) :
    Calls Tryz.prog 45 #[.agg #[.slice At ts.length ct, .slice As s.len cs]] w fun E w' => ∃ v, E = .returned v ∧ PRow w' w.heap.size v (pointsB (validB ts s) s) ∧ Below w.heap.size w w' := by
  have hb0 := (Below.refl w.heap.size w).alloc (Nat.le_refl _) (.cells #[.slice At ts.length ct, .slice As s.len cs] 26)
  have hT1 : IntsV (w.alloc (.cells #[.slice At ts.length ct, .slice As s.len cs] 26)) 0 (w.alloc (.cells #[.slice At ts.length ct, .slice As s.len cs] 26)).heap.size ts At ct := hT.below hb0 (by simp)
  have hR1 : RepV (w.alloc (.cells #[.slice At ts.length ct, .slice As s.len cs] 26)) 0 (w.alloc (.cells #[.slice At ts.length ct, .slice As s.len cs] 26)).heap.size s As cs := hR.below hb0 (by simp)
  have hc0 : (w.alloc (.cells #[.slice At ts.length ct, .slice As s.len cs] 26)).heap[w.heap.size]? = _ := heap_alloc_new w _
  have HC := Lib.hid hc0
  clear hc0
  by_cases h1 : validB ts s = true
  · have H1 := Lib.hid h1
    have e0 : Hid (pointsB (validB ts s) s = progPts s) := by simp [Hid, pointsB, h1]
    have h30 : s.size ≤ 30 := by
      simp only [validB, Bool.and_eq_true, decide_eq_true_eq] at h1
      exact h1.2.2
    clear h1
    go_enter Tryz.func45, Tryz.ntmps45
    go_wp2_with fail
    refine (specProgramValid_any ts s At As ct cs _ hsz hT1 hR1).mono ?_
    rintro E w1 ⟨he, hb1⟩
    rw [H1.out] at he
    subst he
    have hb1' := hb1.block w.heap.size (by simp)
    rw [HC.out] at hb1'
    have d0 : w1.cell? ⟨w.heap.size, 0, none⟩ = some (.slice At ts.length ct) := (cell_of_block hb1' 0).trans rfl
    have d1 : w1.cell? ⟨w.heap.size, 1, none⟩ = some (.slice As s.len cs) := (cell_of_block hb1' 1).trans rfl
    have hs1 := hb1.size
    have hb : Below w.heap.size w w1 := hb0.trans (hb1.mono (by simp))
    have hR2 := hR.below hb hb.size
    clear hb1' hb1 hT1 hR1
    go_wp2_with fail
    refine (l2Points_any ts s At As ct cs _ (by omega) hR2).mono ?_
    rintro E w2 ⟨v, rfl, hP, hb2⟩
    have HP := Lib.hid hP
    clear hP
    go_wp2_with fail
    go_ret
    refine ⟨_, rfl, ?_, hb.trans (hb2.mono hb.size)⟩
    rw [e0.out]
    exact HP.out.mono hb.size
  · have H1 : Hid (validB ts s = false) := by unfold Hid; simpa using h1
    have e0 : Hid (pointsB (validB ts s) s = []) := by simp [Hid, pointsB, h1]
    clear h1
    go_enter Tryz.func45, Tryz.ntmps45
    go_wp2_with fail
    refine (specProgramValid_any ts s At As ct cs _ hsz hT1 hR1).mono ?_
    rintro E w1 ⟨he, hb1⟩
    rw [H1.out] at he
    subst he
    have hb : Below w.heap.size w w1 := hb0.trans (hb1.mono (by simp))
    have HP := Lib.hid (PRow.nil (w := w1) (B := w.heap.size) hb.size)
    go_wp2_with fail
    go_ret
    exact ⟨_, rfl, by rw [e0.out]; exact HP.out, hb.alloc hb.size _⟩

end Go.Proofs.YtbffldgiccijlaaGreatDoor

namespace Go.Proofs.YtbffldgiccijlaaGreatDoor
open Go.RowKit Go.Deep
set_option linter.unusedVariables false

/-- What the search answers. -/
def FromPost (ns : List Nd) (a : Nat) (w : World) (E : Ending) (w' : World) : Prop := ∃ F fl, E = .returned (.slice (some ⟨F, 0, none⟩) ns.length ns.length) ∧ w.heap.size ≤ F ∧ FlAt w' F ns.length fl ∧ (∀ i, (i < ns.length ∧ fl i = true) ↔ Reach (nextN ns) a i) ∧ Below w.heap.size w w'

theorem FlAt.start (w : World) (n : Nat) : FlAt (w.alloc (.cells (madeCells #[.bool false] n) 4)) w.heap.size n (fun _ => false) := by
  refine ⟨_, heap_alloc_new w _, by simp [madeCells], fun i hi => ?_⟩
  simp [madeCells, hi, Nat.mod_one]

set_option maxRecDepth 100000 in
set_option maxHeartbeats 4000000 in
theorem l2From_any (q a g cap B : Nat) (ns : List Nd) (w : World) (hD : PtsOk q ns) (hle : ns.length ≤ 61) (ha : a < ns.length) (hg : g < w.heap.size) (hP : PRow w B (.slice (some ⟨g, 0, none⟩) ns.length cap) ns) :
    Calls Tryz.prog 46 #[.slice (some ⟨g, 0, none⟩) ns.length cap, .int .i64 a] w (FromPost ns a w) := by
  obtain ⟨d, hd⟩ : ∃ d, ns[a]? = some d := ⟨ns[a], List.getElem?_eq_getElem ha⟩
  have hmk := run_make_row' (P := Tryz.prog) 62 4 (.bool false) 1 Tryz.underlying62 Tryz.infoBool rfl .i64 .i64 ns.length (by omega) (by omega) w
  have hfl := FlAt.start w ns.length
  have hbw := (Below.refl w.heap.size w).alloc (Nat.le_refl _) (.cells (madeCells #[.bool false] ns.length) 4)
  have hz1 : (w.alloc (.cells (madeCells #[.bool false] ns.length) 4)).heap.size = w.heap.size + 1 := by simp
  generalize w.alloc (.cells (madeCells #[.bool false] ns.length) 4) = w1 at hmk hfl hbw hz1
  have hP1 := hP.below hbw
  have hb2 := (Below.refl w1.heap.size w1).alloc (Nat.le_refl _) (.cells #[] 3)
  obtain ⟨u, ⟨-, -, -, -, c4⟩, hu⟩ := (hP1.below hb2).cells hd
  have hrow0 : RowI (w1.alloc (.cells #[] 3)) w.heap.size (.slice (some ⟨w1.heap.size, 0, none⟩) 0 0) [] := World.ownsRow_lit (base := w.heap.size) (e := 3) (size := 1) w1 #[] 0 (by omega) (by simp [maxLen]) rfl
  rw [hz1] at hrow0
  have hf2 := hfl.keep (hb2.block w.heap.size (by omega))
  have hbw2 := hbw.trans (hb2.mono (by omega))
  have hnr := hu.row (nextN_two hD hd)
  have HP := Lib.hid hP
  have HD := Lib.hid hD
  have HDA := Lib.hid hd
  have HNR := Lib.hid hnr
  have HROW := Lib.hid hrow0
  have HFL := Lib.hid hf2
  have hnx := nextN_ints hD hd
  have HNX := Lib.hid hnx
  have htwo := nextN_two hD hd
  clear hP hD hd hu hP1 hnr hrow0 hf2 hfl hnx hb2 hbw
  go_enter Tryz.func46, Tryz.ntmps46
  go_wp2_with (at_builtin; refine wpList_append_rows rfl _ _ rfl w.heap.size B _ _ [] d.next (by rfl) rfl HROW.out HNR.out ?ra1 ?ra2 ?_)
  try (case ra1 => simp; omega)
  try (case ra2 => simp; omega)
  intro v1 w2 hr2 hgr2
  have hbA : Below w.heap.size w w2 := hbw2.grown hgr2 (by simp; omega) (fun k hk => ((RowI.own HROW.out).lt k hk).1)
  have hF2 := HFL.out.keep (hgr2.block w.heap.size (by simp; omega) (fun e => HFL.out.apart HROW.out e.symm))
  try rw [List.nil_append] at hr2
  have HST : Hid (∃ (W : List Nat) (fl : Nat → Bool), lenW v1 = W.length ∧ RowI w2 w.heap.size v1 (intsW W) ∧ FlAt w2 w.heap.size ns.length fl ∧ Found (nextN ns) a (fun x => x < ns.length ∧ fl x = true) W ∧ (∀ x ∈ W, x < ns.length) ∧ W.length + 2 * ((List.range ns.length).filter fun i => !fl i).length ≤ 200 ∧ Below w.heap.size w w2) := by
    refine ⟨nextN ns a, fun _ => false, ?_, by rw [HNX.out.1]; exact hr2, hF2, Found.start _ _ (fun x h => by simp at h), HNX.out.2, ?_, hbA⟩
    · obtain ⟨A, c, hv⟩ := hr2.slice
      rw [hv, ← intsW_length, HNX.out.1]
      rfl
    have : (nextN ns a).length ≤ 2 := by rw [← intsW_length, HNX.out.1]; exact htwo
    have h2 : ((List.range ns.length).filter fun i => !(fun _ => false : Nat → Bool) i).length ≤ ns.length := by
      have := List.length_filter_le (fun i => !(fun _ => false : Nat → Bool) i) (List.range ns.length)
      simpa using this
    omega
  clear hr2 hgr2 hF2 hbA
  go_wp2_with fail
  go_loopw [6] (fun p wr => Hid (∃ (W : List Nat) (fl : Nat → Bool), lenW p = W.length ∧ RowI wr w.heap.size p (intsW W) ∧ FlAt wr w.heap.size ns.length fl ∧ Found (nextN ns) a (fun x => x < ns.length ∧ fl x = true) W ∧ (∀ x ∈ W, x < ns.length) ∧ W.length + 2 * ((List.range ns.length).filter fun i => !fl i).length ≤ 200 ∧ Below w.heap.size w wr)) (fun p wr => 3 * offs wr w.heap.size ns.length + lenW p)
  case atStart => exact HST
  case round =>
    clear HST
    obtain ⟨W, fl, hlw, hrow, hfl, hF, hWn, hcnt, hb⟩ := hrel.out
    have hbz := hb.size
    have HFL2 := Lib.hid hfl
    have HFD := Lib.hid hF
    have HWN := Lib.hid hWn
    have HCNT := Lib.hid hcnt
    have hw200 : W.length ≤ 200 := by omega
    by_cases hW : W = []
    · subst hW
      obtain ⟨A, c, hv⟩ := hrow.slice
      have hl0 : (intsW []).length = 0 := rfl
      rw [hl0] at hv
      subst hv
      clear hrow hfl hF hWn hcnt hrel
      go_wp2_with fail
      go_ret
      exact ⟨w.heap.size, fl, rfl, Nat.le_refl _, HFL2.out, HFD.out.last, hb⟩
    · obtain ⟨V, b, rfl⟩ := snoc_of hW
      obtain ⟨A, c, hv⟩ := hrow.slice
      have hrow2 : RowI wr w.heap.size (.slice A ((intsW V).length + 1) c) (intsW V ++ [(b : Int)]) := by
        have := hrow
        rw [hv, intsW_snoc] at this
        simpa using this
      rw [intsW_length, List.length_append, List.length_cons, List.length_nil] at hv
      obtain ⟨hshort, g', hA, hlc, hcm, hcell⟩ := RowI.short hrow2
      subst hA
      rw [intsW_length] at hshort hlc hcell
      unfold maxLen at hcm
      rw [List.length_append, List.length_cons, List.length_nil] at hw200
      have hbn : b < ns.length := hWn b (by simp)
      have hfb := hfl.cell hbn
      have hsf := hfl.soft b
      have hslc : ∀ W, (Instr.sliceAt 23 (.slice (some ⟨g', 0, none⟩) (V.length + 1) c) none (some (.int .i64 (V.length : Int))) none).run Tryz.prog W = .ok (.slice (some ⟨g', 0, none⟩) V.length c) W := by
        intro W
        have he : Tryz.prog.elem 23 = 3 := by kernel_rfl
        have hz : (sizeOf 3).run Tryz.prog W = .ok 1 W := by first | exact Tryz.sizeOf3 W | simp [Tryz.sizeOf3] | kernel_rfl
        rw [run_sliceAt_slice W 23 _ _ _ _ (by kernel_rfl), run_slice_h W 23 (some ⟨g', 0, none⟩) (V.length + 1) c (by kernel_rfl) .i64 (V.length : Int) (by omega) (by omega), he, hz]
        simp [sliced, Addr.add]
      have HSH := Lib.hid hshort
      have hl1 : ((V.length : Int) + 1 - 1) = (V.length : Int) := by omega
      clear hshort hrow hrow2 hfl hF hWn hcnt hW hlw hrel
      subst hv
      cases hflb : fl b
      · rw [hflb] at hfb
        have hFP := HFL2.out.put hbn
        have hap := HFL2.out.apart HSH.out
        have hgS : wr.grownBy (wr.setCell ⟨w.heap.size, b, none⟩ (.bool true)) (some w.heap.size) := ⟨rfl, rfl, rfl, by simp [World.setCell], fun k hk hne => heap_setCell_other _ _ _ _ (fun e => hne (by rw [e]))⟩
        have hRS : RowI (wr.setCell ⟨w.heap.size, b, none⟩ (.bool true)) w.heap.size (.slice (some ⟨g', 0, none⟩) V.length c) (intsW V) := by
          have := HSH.out.own.kept hgS (.inr hap)
          exact this
        have hbS : Below w.heap.size w (wr.setCell ⟨w.heap.size, b, none⟩ (.bool true)) := ⟨hb.os, hb.tape, hb.output, by have := hgS.size; omega, fun k hk => (heap_setCell_other _ _ _ _ (by simp; omega)).trans (hb.block k hk)⟩
        obtain ⟨e, he⟩ : ∃ e, ns[b]? = some e := ⟨ns[b], List.getElem?_eq_getElem hbn⟩
        obtain ⟨u2, ⟨-, -, -, -, c5⟩, hu2⟩ := (HP.out.below hbS).cells he
        have HN2 := Lib.hid (hu2.row (nextN_two HD.out he))
        have HNE := Lib.hid (nextN_ints HD.out he)
        have he2 := nextN_two HD.out he
        have HRS := Lib.hid hRS
        have HFP := Lib.hid hFP
        have hbSz := hbS.size
        clear hFP hgS hRS he hu2 c4
        go_wp2_with (at_builtin; refine wpList_append_rows rfl _ _ rfl w.heap.size B _ _ (intsW V) e.next (by rfl) rfl HRS.out HN2.out ?rb1 ?rb2 ?_)
        try (case rb1 => rw [intsW_length]; omega)
        try (case rb2 => omega)
        intro v' w' hr' hgr'
        have hb' := hbS.grown hgr' (by omega) (fun k hk => ((RowI.own HRS.out).lt k hk).1)
        have hFL' := HFP.out.keep (hgr'.block w.heap.size (by have := hgr'.size; have := hb.size; have h9 := HFP.out.cell hbn; obtain ⟨cs9, h10, _⟩ := HFP.out; exact heap_lt h10) (fun e => hap e.symm))
        go_wp2_with fail
        obtain ⟨A', c', hv'⟩ := hr'.slice
        have hlv : lenW v' = (V ++ nextN ns b).length := by
          rw [hv', List.length_append, List.length_append, ← HNE.out.1, intsW_length, intsW_length]
          rfl
        have hne2 : (nextN ns b).length ≤ 2 := by rw [← intsW_length, HNE.out.1]; exact he2
        have hcs := count_set fl b hflb ns.length hbn
        refine ⟨⟨V ++ nextN ns b, setFl fl b, hlv, by rw [intsW_append, HNE.out.1]; exact hr', hFL', HFD.out.new (fun x => ?_), ?_, ?_, hb'⟩, ?_⟩
        · unfold setFl
          by_cases hxb : x = b
          · subst hxb
            simp [hbn]
          · simp [hxb]
        · intro x hx
          rcases List.mem_append.mp hx with hx | hx
          · exact HWN.out x (List.mem_append.mpr (.inl hx))
          · exact HNE.out.2 x hx
        · have := HCNT.out
          rw [List.length_append] at this ⊢
          simp only [List.length_cons, List.length_nil] at this
          omega
        · rw [hlv, hFL'.offs, HFL2.out.offs, List.length_append]
          simp only [lenW]
          omega
      · rw [hflb] at hfb
        go_wp2_with fail
        refine ⟨⟨V, fl, rfl, HSH.out, HFL2.out, HFD.out.old ⟨hbn, hflb⟩, fun x hx => HWN.out x (List.mem_append.mpr (.inl hx)), ?_, hb⟩, ?_⟩
        · have := HCNT.out
          rw [List.length_append] at this
          omega
        · simp only [lenW]
          omega

end Go.Proofs.YtbffldgiccijlaaGreatDoor

namespace Go.Proofs.YtbffldgiccijlaaGreatDoor
open Go.RowKit Go.Deep
set_option linter.unusedVariables false

set_option maxRecDepth 100000 in
set_option maxHeartbeats 4000000 in
theorem specPathsFrom_yes (ts : List Int) (s : Sts) (At As : Option Addr) (ct cs : Nat) (a : Nat) (w : World) (hsz : s.size ≤ 1048576) (h1 : validB ts s = true) (ha : a < (progPts s).length) (hT : IntsV w 0 w.heap.size ts At ct) (hR : RepV w 0 w.heap.size s As cs) :
    Calls Tryz.prog 16 #[.agg #[.slice At ts.length ct, .slice As s.len cs], .int .i64 a] w fun E w' => ∃ v l, E = .returned v ∧ RowI w' w.heap.size v l ∧ IsPathsB (Reach (nextN (progPts s)) a) l ∧ Below w.heap.size w w' := by
  have hb0 := (((Below.refl w.heap.size w).alloc (Nat.le_refl _) (.cells #[.slice At ts.length ct, .slice As s.len cs] 26)).alloc (by simp) (.cells #[] 3))
  have hT1 := hT.below hb0 (by simp; omega : w.heap.size ≤ ((w.alloc (.cells #[.slice At ts.length ct, .slice As s.len cs] 26)).alloc (.cells #[] 3)).heap.size)
  have hR1 := hR.below hb0 (by simp; omega : w.heap.size ≤ ((w.alloc (.cells #[.slice At ts.length ct, .slice As s.len cs] 26)).alloc (.cells #[] 3)).heap.size)
  have hz0 : ((w.alloc (.cells #[.slice At ts.length ct, .slice As s.len cs] 26)).alloc (.cells #[] 3)).heap.size = w.heap.size + 2 := by simp
  have hD := progPts_ok s (valid_ok h1).2.1
  have hle : (progPts s).length ≤ 61 := by
    have := s.npts_le
    have := valid_size h1
    rw [progPts_len]
    omega
  have hS := specPointsOf_any ts s At As ct cs _ hsz hT1 hR1
  have e0 : pointsB (validB ts s) s = progPts s := by simp [pointsB, h1]
  rw [e0] at hS
  have hrow0 : RowI ((w.alloc (.cells #[.slice At ts.length ct, .slice As s.len cs] 26)).alloc (.cells #[] 3)) w.heap.size (.slice (some ⟨w.heap.size + 1, 0, none⟩) 0 0) [] := by
    have := World.ownsRow_lit (base := w.heap.size) (e := 3) (size := 1) (w.alloc (.cells #[.slice At ts.length ct, .slice As s.len cs] 26)) #[] 0 (by simp) (by simp [maxLen]) rfl
    have hz : (w.alloc (.cells #[.slice At ts.length ct, .slice As s.len cs] 26)).heap.size = w.heap.size + 1 := by simp
    rw [hz] at this
    exact this
  generalize progPts s = ds at hS hD hle ha ⊢
  generalize s.npts = q at hD
  have HROW0 := Lib.hid hrow0
  have HZ := Lib.hid hz0
  have HD := Lib.hid hD
  obtain ⟨i0, hi, hzz0, hzz1, hzz2⟩ := info_parts Tryz.infoInt
  have HI := Lib.hid hi
  have HZ0 := Lib.hid hzz0
  have HZ1 := Lib.hid hzz1
  have HZ2 := Lib.hid hzz2
  clear hi hzz0 hzz1 hzz2 e0 h1 hz0 hrow0 hT1 hR1 hD
  go_enter Tryz.func16, Tryz.ntmps16
  go_wp2_with fail
  refine hS.mono ?_
  rintro E w1 ⟨v, rfl, hP, hb1⟩
  rw [HZ.out] at hP hb1
  have hs1 := hb1.size
  rw [HZ.out] at hs1
  have hbw : Below w.heap.size w w1 := hb0.trans (hb1.mono (by omega))
  obtain ⟨g, cap, hv, hgB, hgl, -, -⟩ := hP.form (by omega)
  subst hv
  have hl2 := l2From_any q a g cap (w.heap.size + 2) ds w1 HD.out hle ha hgl hP
  have HR0 : Hid (RowI w1 w.heap.size (.slice (some ⟨w.heap.size + 1, 0, none⟩) 0 0) []) := HROW0.out.below (by rw [HZ.out]; exact hb1)
  clear hP hb1 hS HROW0
  have hd1 : decide ((a : Int) < 0) = false := decide_eq_false (by omega)
  have hd2 : decide ((ds.length : Int) ≤ (a : Int)) = false := decide_eq_false (by omega)
  go_wp2_with fail
  refine hl2.mono ?_
  rintro E w2 ⟨F, fl, rfl, hFw, hfl, hR2, hb2⟩
  have HFL := Lib.hid hfl
  have HRE := Lib.hid hR2
  have hbW : Below w.heap.size w w2 := hbw.trans (hb2.mono (by omega))
  have HR2 : Hid (RowI w2 w.heap.size (.slice (some ⟨w.heap.size + 1, 0, none⟩) 0 0) []) := HR0.out.below hb2
  have hs2 := hb2.size
  have hFl : F < w2.heap.size := by
    obtain ⟨cs9, h10, _⟩ := hfl
    exact heap_lt h10
  clear hl2 hfl hR2 hb2 HR0 hd1 hd2
  go_wp2_with fail
  go_loopw [5, 8] (fun o i wr => ∃ k : Nat, i = .int .i64 k ∧ k ≤ ds.length ∧ Hid (RowI wr w.heap.size o (firstN fl k)) ∧ Hid (FlAt wr F ds.length fl) ∧ Below w.heap.size w wr) (fun _ i _ => ds.length - (intOf i).toNat)
  case atStart => exact ⟨0, rfl, Nat.zero_le _, HR2, HFL, hbW⟩
  case round =>
    clear HR2 HFL hbW
    obtain ⟨k, rfl, hk, hrow, hfl, hb⟩ := hrel
    have hbz := hb.size
    by_cases hlt : k < ds.length
    · have hcell := hfl.out.cell hlt
      have hln := firstN_length fl k
      cases hflk : fl k
      · rw [hflk] at hcell
        have e := Lib.hid (firstN_no hflk)
        go_wp2_with fail
        refine ⟨⟨k + 1, by simp, by omega, by rw [e.out]; exact hrow, hfl, hb⟩, ?_⟩
        simp only [intOf]
        omega
      · rw [hflk] at hcell
        have e := Lib.hid (firstN_yes hflk)
        have hap := hfl.out.apart hrow.out
        go_wp2_with (at_builtin; refine wpList_append_own _ rfl _ _ 23 rfl w.heap.size 3 i0 (.int .i64 0) 1 8 Tryz.underlying23 HI.out HZ0.out HZ1.out HZ2.out rfl (by decide) _ _ _ rfl ((RowI.own hrow.out).alloc _) ⟨_, 0, none⟩ 1 1 [.int .i64 (k : Int)] rfl rfl ?ra1 ?ra2 ?ra3 ?ra4 ?ra5 ?_)
        try (case ra1 => exact news1 (by simp) rfl)
        try (case ra2 => intro u hu; simp only [List.mem_cons, List.not_mem_nil, or_false] at hu; subst hu; rfl)
        try (case ra3 => unfold maxLen; omega)
        try (case ra4 => omega)
        try (case ra5 => simp; omega)
        intro v' w' hown' hgr hne
        have hb' := (hb.alloc hbz (.cells #[Value.int .i64 (k : Int)] 3)).grown hgr (by simp; omega) (fun g hg' => ((RowI.own hrow.out).lt g hg').1)
        have HR' : Hid (RowI w' w.heap.size v' (firstN fl k ++ [(k : Int)])) := RowI.snoc hown'
        have hF0 : F < wr.heap.size := by
          obtain ⟨cs9, h10, _⟩ := hfl.out
          exact heap_lt h10
        have hfl1 : FlAt (wr.alloc (.cells #[Value.int .i64 (k : Int)] 3)) F ds.length fl := hfl.out.keep (((Below.refl wr.heap.size wr).alloc (Nat.le_refl _) _).block F hF0)
        have HF' := Lib.hid (hfl1.keep (hgr.block F (by simp; omega) (fun e => hap e.symm)))
        clear hown' hgr hne hfl1
        go_wp2_with fail
        refine ⟨⟨k + 1, by simp, by omega, by rw [e.out]; exact HR', HF', hb'⟩, ?_⟩
        simp only [intOf]
        omega
    · have hke : k = ds.length := by omega
      subst hke
      go_wp2_with fail
      go_ret
      exact ⟨_, _, rfl, hrow.out, isPathsB_of (by omega) HRE.out, hb⟩

end Go.Proofs.YtbffldgiccijlaaGreatDoor

namespace Go.Proofs.YtbffldgiccijlaaGreatDoor
open Go.RowKit Go.Deep
set_option linter.unusedVariables false

theorem pRow_len {w : World} {B : Nat} {v : Value} {ns : List Nd} (h : PRow w B v ns) : ∃ A c, v = .slice A ns.length c := by
  obtain ⟨xs, ho, _⟩ := h
  rcases ho.2 with ⟨hv, h0⟩ | ⟨g, cap, cur, hv, _⟩
  · exact ⟨none, 0, by rw [hv, h0]⟩
  · exact ⟨_, _, hv⟩

set_option maxRecDepth 100000 in
set_option maxHeartbeats 4000000 in
theorem specPathsFrom_no (ts : List Int) (s : Sts) (At As : Option Addr) (ct cs : Nat) (a : Int) (w : World) (hsz : s.size ≤ 1048576) (ha : a < 0 ∨ ((pointsB (validB ts s) s).length : Int) ≤ a) (hT : IntsV w 0 w.heap.size ts At ct) (hR : RepV w 0 w.heap.size s As cs) :
    Calls Tryz.prog 16 #[.agg #[.slice At ts.length ct, .slice As s.len cs], .int .i64 a] w fun E w' => ∃ v, E = .returned v ∧ RowI w' w.heap.size v [] ∧ Below w.heap.size w w' := by
  have hb0 := (((Below.refl w.heap.size w).alloc (Nat.le_refl _) (.cells #[.slice At ts.length ct, .slice As s.len cs] 26)).alloc (by simp) (.cells #[] 3))
  have hT1 := hT.below hb0 (by simp; omega : w.heap.size ≤ ((w.alloc (.cells #[.slice At ts.length ct, .slice As s.len cs] 26)).alloc (.cells #[] 3)).heap.size)
  have hR1 := hR.below hb0 (by simp; omega : w.heap.size ≤ ((w.alloc (.cells #[.slice At ts.length ct, .slice As s.len cs] 26)).alloc (.cells #[] 3)).heap.size)
  have hz0 : ((w.alloc (.cells #[.slice At ts.length ct, .slice As s.len cs] 26)).alloc (.cells #[] 3)).heap.size = w.heap.size + 2 := by simp
  have hS := specPointsOf_any ts s At As ct cs _ hsz hT1 hR1
  have hrow0 : RowI ((w.alloc (.cells #[.slice At ts.length ct, .slice As s.len cs] 26)).alloc (.cells #[] 3)) w.heap.size (.slice (some ⟨w.heap.size + 1, 0, none⟩) 0 0) [] := by
    have := World.ownsRow_lit (base := w.heap.size) (e := 3) (size := 1) (w.alloc (.cells #[.slice At ts.length ct, .slice As s.len cs] 26)) #[] 0 (by simp) (by simp [maxLen]) rfl
    have hz : (w.alloc (.cells #[.slice At ts.length ct, .slice As s.len cs] 26)).heap.size = w.heap.size + 1 := by simp
    rw [hz] at this
    exact this
  generalize pointsB (validB ts s) s = ds at hS ha
  have HROW0 := Lib.hid hrow0
  have HZ := Lib.hid hz0
  clear hz0 hrow0 hT1 hR1
  by_cases h0 : a < 0
  · have hd1 : decide (a < 0) = true := decide_eq_true h0
    clear ha h0
    go_enter Tryz.func16, Tryz.ntmps16
    go_wp2_with fail
    refine hS.mono ?_
    rintro E w1 ⟨v, rfl, hP, hb1⟩
    rw [HZ.out] at hb1
    have hs1 := hb1.size
    have hbw : Below w.heap.size w w1 := hb0.trans (hb1.mono (by omega))
    have HR0 : Hid (RowI w1 w.heap.size (.slice (some ⟨w.heap.size + 1, 0, none⟩) 0 0) []) := HROW0.out.below (by rw [HZ.out]; exact hb1)
    clear hP hb1 hS HROW0
    go_wp2_with fail
    go_ret
    exact ⟨_, rfl, HR0.out, hbw⟩
  · have hd1 : decide (a < 0) = false := decide_eq_false h0
    have hd2 : decide ((ds.length : Int) ≤ a) = true := decide_eq_true (by omega)
    clear ha h0
    go_enter Tryz.func16, Tryz.ntmps16
    go_wp2_with fail
    refine hS.mono ?_
    rintro E w1 ⟨v, rfl, hP, hb1⟩
    obtain ⟨Av, cv, hv⟩ := pRow_len hP
    subst hv
    rw [HZ.out] at hb1
    have hs1 := hb1.size
    have hbw : Below w.heap.size w w1 := hb0.trans (hb1.mono (by omega))
    have HR0 : Hid (RowI w1 w.heap.size (.slice (some ⟨w.heap.size + 1, 0, none⟩) 0 0) []) := HROW0.out.below (by rw [HZ.out]; exact hb1)
    clear hP hb1 hS HROW0
    go_wp2_with fail
    go_ret
    exact ⟨_, rfl, HR0.out, hbw⟩

end Go.Proofs.YtbffldgiccijlaaGreatDoor

namespace Go.Proofs.YtbffldgiccijlaaGreatDoor
open Go.RowKit Go.Deep
set_option linter.unusedVariables false

theorem ontoV_of {w w' : World} {v : Value} {g n cap : Nat} (hg : w.grownBy w' v.ownBlock) (hat : v.ownBlock = some g ∨ g = w.heap.size) : Onto w w' v (.slice (some ⟨g, 0, none⟩) n cap) := by
  refine ⟨hg, ?_⟩
  rcases hat with h | h
  · exact .inl h.symm
  · refine .inr fun k hk => ?_
    have hk' : g = k := by simpa [Value.ownBlock] using hk
    omega

theorem PRow.ontoV {w w' : World} {B : Nat} {v x y : Value} {ns : List Nd} (h : PRow w B v ns) (hO : Onto w w' x y) (hx : ∀ g, x.ownBlock = some g → g < B) : PRow w' B v ns := by
  obtain ⟨xs, ho, hc⟩ := h
  have hb : ∀ k, B ≤ k → k < w.heap.size → w'.heap[k]? = w.heap[k]? := fun k hk hl => hO.1.block k hl (fun e => by have := hx k e.symm; omega)
  refine ⟨xs, ⟨ho.1, ?_⟩, fun k d hd => ?_⟩
  · rcases ho.2 with h | ⟨g, cap, cur, h1, h2, h3, h4⟩
    · exact .inl h
    · exact .inr ⟨g, cap, cur, h1, h2, (hb g h2 (heap_lt h3)).trans h3, h4⟩
  · obtain ⟨u, h5, hn⟩ := hc k d hd
    refine ⟨u, h5, ?_⟩
    rcases hn with hn | ⟨g, e1, e2, e3⟩
    · exact .inl hn
    · exact .inr ⟨g, e1, e2, (hb g e2 (heap_lt e3)).trans e3⟩

theorem Onto.belowV {w w' : World} {B : Nat} {v v' : Value} (h : Onto w w' v v') (hB : B ≤ w.heap.size) (hv : ∀ g, v.ownBlock = some g → B ≤ g) : Below B w w' :=
  ⟨h.1.os, h.1.tape, h.1.output, h.1.size, fun k hk => h.1.block k (by omega) fun e => by have := hv k e.symm; omega⟩

/-- Whether a point leads to another, of the first k points. -/
def UpTo (R : Nat → Prop) (k : Nat) (l : List Int) : Prop := ∃ p : Nat → Bool, l = firstN p k ∧ ∀ x, x < k → (p x = true ↔ R x)

theorem UpTo.zero (R : Nat → Prop) : UpTo R 0 [] := ⟨fun _ => false, rfl, fun x h => by omega⟩

theorem UpTo.yes {R : Nat → Prop} {k : Nat} {l : List Int} (h : UpTo R k l) (hk : R k) : UpTo R (k + 1) (l ++ [(k : Int)]) := by
  obtain ⟨p, rfl, hp⟩ := h
  refine ⟨fun i => if i = k then true else p i, ?_, fun x hx => ?_⟩
  · rw [firstN_yes (by simp)]
    congr 1
    exact firstN_congr fun i hi => by simp [Nat.ne_of_lt hi]
  · by_cases hxk : x = k
    · subst hxk; simp [hk]
    · simp only [hxk, if_false]
      exact hp x (by omega)

theorem UpTo.no {R : Nat → Prop} {k : Nat} {l : List Int} (h : UpTo R k l) (hk : ¬ R k) : UpTo R (k + 1) l := by
  obtain ⟨p, rfl, hp⟩ := h
  refine ⟨fun i => if i = k then false else p i, ?_, fun x hx => ?_⟩
  · rw [firstN_no (by simp)]
    exact firstN_congr fun i hi => by simp [Nat.ne_of_lt hi]
  · by_cases hxk : x = k
    · subst hxk; simp [hk]
    · simp only [hxk, if_false]
      exact hp x (by omega)

theorem UpTo.toB {R : Nat → Prop} {n : Nat} {l : List Int} (h : UpTo R n l) (hn : n ≤ 64) (hR : ∀ x, R x → x < n) : IsPathsB R l := by
  obtain ⟨p, rfl, hp⟩ := h
  refine isPathsB_of hn fun i => ⟨fun ⟨h1, h2⟩ => (hp i h1).mp h2, fun h => ⟨hR i h, (hp i (hR i h)).mpr h⟩⟩

theorem Reach.from_lt {q : Nat} {ns : List Nd} (hD : PtsOk q ns) (hle : ns.length ≤ 61) {a b : Nat} (h : Reach (nextN ns) a b) : a < ns.length := by
  induction h with
  | one h =>
    obtain ⟨d, i, h1, _⟩ := (mem_nextN hD hle _ _).mp h
    exact (List.getElem?_eq_some_iff.mp h1).1
  | step _ _ ih => exact ih

theorem UpTo.length {R : Nat → Prop} {n : Nat} {l : List Int} (h : UpTo R n l) : l.length ≤ n := by
  obtain ⟨p, rfl, _⟩ := h
  exact firstN_length p n

set_option maxRecDepth 100000 in
set_option maxHeartbeats 4000000 in
theorem specPathsTo_yes (ts : List Int) (s : Sts) (At As : Option Addr) (ct cs : Nat) (a : Nat) (w : World) (hsz : s.size ≤ 1048576) (h1 : validB ts s = true) (ha : a < (progPts s).length) (hT : IntsV w 0 w.heap.size ts At ct) (hR : RepV w 0 w.heap.size s As cs) :
    Calls Tryz.prog 20 #[.agg #[.slice At ts.length ct, .slice As s.len cs], .int .i64 a] w fun E w' => ∃ v l, E = .returned v ∧ RowI w' w.heap.size v l ∧ IsPathsB (fun x => Reach (nextN (progPts s)) x a) l ∧ Below w.heap.size w w' := by
  have hb0 := (((Below.refl w.heap.size w).alloc (Nat.le_refl _) (.cells #[.slice At ts.length ct, .slice As s.len cs] 26)).alloc (by simp) (.cells #[] 3))
  have hT1 := hT.below hb0 (by simp; omega : w.heap.size ≤ ((w.alloc (.cells #[.slice At ts.length ct, .slice As s.len cs] 26)).alloc (.cells #[] 3)).heap.size)
  have hR1 := hR.below hb0 (by simp; omega : w.heap.size ≤ ((w.alloc (.cells #[.slice At ts.length ct, .slice As s.len cs] 26)).alloc (.cells #[] 3)).heap.size)
  have hz0 : ((w.alloc (.cells #[.slice At ts.length ct, .slice As s.len cs] 26)).alloc (.cells #[] 3)).heap.size = w.heap.size + 2 := by simp
  have hD := progPts_ok s (valid_ok h1).2.1
  have hle : (progPts s).length ≤ 61 := by
    have := s.npts_le
    have := valid_size h1
    rw [progPts_len]
    omega
  have hS := specPointsOf_any ts s At As ct cs _ hsz hT1 hR1
  have e0 : pointsB (validB ts s) s = progPts s := by simp [pointsB, h1]
  rw [e0] at hS
  have hrow0 : RowI ((w.alloc (.cells #[.slice At ts.length ct, .slice As s.len cs] 26)).alloc (.cells #[] 3)) w.heap.size (.slice (some ⟨w.heap.size + 1, 0, none⟩) 0 0) [] := by
    have := World.ownsRow_lit (base := w.heap.size) (e := 3) (size := 1) (w.alloc (.cells #[.slice At ts.length ct, .slice As s.len cs] 26)) #[] 0 (by simp) (by simp [maxLen]) rfl
    have hz : (w.alloc (.cells #[.slice At ts.length ct, .slice As s.len cs] 26)).heap.size = w.heap.size + 1 := by simp
    rw [hz] at this
    exact this
  generalize progPts s = ds at hS hD hle ha ⊢
  generalize s.npts = q at hD
  have HROW0 := Lib.hid hrow0
  have HZ := Lib.hid hz0
  have HD := Lib.hid hD
  obtain ⟨i0, hi, hzz0, hzz1, hzz2⟩ := info_parts Tryz.infoInt
  have HI := Lib.hid hi
  have HZ0 := Lib.hid hzz0
  have HZ1 := Lib.hid hzz1
  have HZ2 := Lib.hid hzz2
  clear hi hzz0 hzz1 hzz2 e0 h1 hz0 hrow0 hT1 hR1 hD
  go_enter Tryz.func20, Tryz.ntmps20
  go_wp2_with fail
  refine hS.mono ?_
  rintro E w1 ⟨v, rfl, hP, hb1⟩
  rw [HZ.out] at hP hb1
  have hs1 := hb1.size
  rw [HZ.out] at hs1
  have hbw : Below w.heap.size w w1 := hb0.trans (hb1.mono (by omega))
  obtain ⟨g, cap, hv, hgB, hgl, -, -⟩ := hP.form (by omega)
  subst hv
  have HP := Lib.hid hP
  have HR0 : Hid (RowI w1 w.heap.size (.slice (some ⟨w.heap.size + 1, 0, none⟩) 0 0) []) := HROW0.out.below (by rw [HZ.out]; exact hb1)
  clear hP hb1 hS HROW0
  have HOWN0 : Hid (∀ k, (Value.slice (some ⟨w.heap.size + 1, 0, none⟩) 0 0).ownBlock = some k → k = w.heap.size + 1) := by
    intro k hk
    have : w.heap.size + 1 = k := by simpa [Value.ownBlock] using hk
    exact this.symm
  have hd1 : decide ((0 : Int) ≤ (a : Int)) = true := decide_eq_true (by omega)
  have hd2 : decide ((a : Int) < (ds.length : Int)) = true := decide_eq_true (by omega)
  go_wp2_with fail
  have hgl1 : g < w1.heap.size := hgl
  go_loopw [5, 7] (fun o i wr => ∃ (k : Nat) (l : List Int), i = .int .i64 k ∧ k ≤ ds.length ∧ Hid (RowI wr w.heap.size o l) ∧ Hid (UpTo (fun x => Reach (nextN ds) x a) k l) ∧ Onto w1 wr (.slice (some ⟨w.heap.size + 1, 0, none⟩) 0 0) o) (fun _ i _ => ds.length - (intOf i).toNat)
  case atStart => exact ⟨0, [], rfl, Nat.zero_le _, HR0, UpTo.zero _, Onto.refl _ _⟩
  case round =>
    clear HR0
    obtain ⟨k, l, rfl, hk, hrow, hup, hO⟩ := hrel
    obtain ⟨Ao, co, ho⟩ := hrow.out.slice
    subst ho
    have hzr := hO.size
    have hbr : Below w.heap.size w1 wr := hO.belowV (by omega) (fun k hk => by have := HOWN0.out k hk; omega)
    have hbW := hbw.trans hbr
    have hPr := HP.out.ontoV hO (fun k hk => by have := HOWN0.out k hk; omega)
    by_cases hlt : k < ds.length
    · have hd3 : decide ((k : Int) < (ds.length : Int)) = true := decide_eq_true (by omega)
      have hl2 := l2From_any q k g cap (w.heap.size + 2) ds wr HD.out hle hlt (by omega) hPr
      have hll := hup.out.length
      clear hPr
      go_wp2_with fail
      refine hl2.mono ?_
      rintro E w2 ⟨F, fl, rfl, hFw, hfl, hR2, hb2⟩
      have hs2 := hb2.size
      have hcell := hfl.cell ha
      have hra := hR2 a
      have hRW := Lib.hid (hrow.out.below hb2)
      have hO2 := hO.trans (Onto.of_below hb2 (Value.slice Ao l.length co))
      clear hl2 hfl hR2 hrow hO
      cases hflk : fl a
      · rw [hflk] at hcell
        have hno : ¬ Reach (nextN ds) k a := fun h => by
          have := hra.mpr h
          rw [hflk] at this
          simp at this
        clear hra
        go_wp2_with fail
        refine ⟨⟨k + 1, l, by simp, by omega, hRW, hup.out.no hno, hO2⟩, ?_⟩
        simp only [intOf]
        omega
      · rw [hflk] at hcell
        have hyes : Reach (nextN ds) k a := hra.mp ⟨ha, hflk⟩
        clear hra
        go_wp2_with (at_builtin; refine wpList_append_lies _ rfl _ _ 23 rfl w.heap.size 3 i0 (.int .i64 0) 1 8 Tryz.underlying23 HI.out HZ0.out HZ1.out HZ2.out rfl (by decide) _ _ _ rfl ((RowI.own hRW.out).alloc _) ⟨_, 0, none⟩ 1 1 [.int .i64 (k : Int)] rfl rfl ?sa1 ?sa2 (by decide) ?sa3 ?sa4 ?sa5 _ rfl ?_)
        try (case sa1 => exact news1 (by simp) rfl)
        try (case sa2 => rfl)
        try (case sa2 => intro u hu; simp only [List.mem_cons, List.not_mem_nil, or_false] at hu; subst hu; rfl)
        try (case sa3 => unfold maxLen; omega)
        try (case sa4 => omega)
        try (case sa5 => first | omega | (simp; omega) | (simp only [World.heap_size_alloc]; omega) | (have := hb2.size; have := hbW.size; simp; omega))
        intro g2 cap2 w' hown' hg hat hlt'
        have hbA := (Below.refl w2.heap.size w2).alloc (Nat.le_refl _) (.cells #[Value.int .i64 (k : Int)] 3)
        have hO3 := (Onto.of_below hbA (Value.slice Ao l.length co)).trans (ontoV_of (n := l.length + 1) (cap := cap2) hg (hat.imp id fun e => e.trans (by simp)))
        have HO' := Lib.hid (hO2.trans hO3)
        have HR' : Hid (RowI w' w.heap.size (.slice (some ⟨g2, 0, none⟩) (l.length + 1) cap2) (l ++ [(k : Int)])) := RowI.snoc hown'
        clear hown' hg hat hbA hO2 hO3
        go_wp2_with fail
        refine ⟨⟨k + 1, l ++ [(k : Int)], by simp, by omega, HR', hup.out.yes hyes, HO'.out⟩, ?_⟩
        simp only [intOf]
        omega
    · have hke : k = ds.length := by omega
      subst hke
      have hd4 : decide ((ds.length : Int) < (ds.length : Int)) = false := decide_eq_false (by omega)
      clear hPr
      go_wp2_with fail
      go_ret
      exact ⟨_, l, rfl, hrow.out, hup.out.toB (by omega) (fun x hx => hx.from_lt HD.out hle), hbW⟩

end Go.Proofs.YtbffldgiccijlaaGreatDoor

namespace Go.Proofs.YtbffldgiccijlaaGreatDoor
open Go.RowKit Go.Deep
set_option linter.unusedVariables false

set_option maxRecDepth 100000 in
set_option maxHeartbeats 4000000 in
theorem specPathsTo_no (ts : List Int) (s : Sts) (At As : Option Addr) (ct cs : Nat) (a : Int) (w : World) (hsz : s.size ≤ 1048576) (ha : a < 0 ∨ ((pointsB (validB ts s) s).length : Int) ≤ a) (hT : IntsV w 0 w.heap.size ts At ct) (hR : RepV w 0 w.heap.size s As cs) :
    Calls Tryz.prog 20 #[.agg #[.slice At ts.length ct, .slice As s.len cs], .int .i64 a] w fun E w' => ∃ v, E = .returned v ∧ RowI w' w.heap.size v [] ∧ Below w.heap.size w w' := by
  have hb0 := (((Below.refl w.heap.size w).alloc (Nat.le_refl _) (.cells #[.slice At ts.length ct, .slice As s.len cs] 26)).alloc (by simp) (.cells #[] 3))
  have hT1 := hT.below hb0 (by simp; omega : w.heap.size ≤ ((w.alloc (.cells #[.slice At ts.length ct, .slice As s.len cs] 26)).alloc (.cells #[] 3)).heap.size)
  have hR1 := hR.below hb0 (by simp; omega : w.heap.size ≤ ((w.alloc (.cells #[.slice At ts.length ct, .slice As s.len cs] 26)).alloc (.cells #[] 3)).heap.size)
  have hz0 : ((w.alloc (.cells #[.slice At ts.length ct, .slice As s.len cs] 26)).alloc (.cells #[] 3)).heap.size = w.heap.size + 2 := by simp
  have hS := specPointsOf_any ts s At As ct cs _ hsz hT1 hR1
  have hrow0 : RowI ((w.alloc (.cells #[.slice At ts.length ct, .slice As s.len cs] 26)).alloc (.cells #[] 3)) w.heap.size (.slice (some ⟨w.heap.size + 1, 0, none⟩) 0 0) [] := by
    have := World.ownsRow_lit (base := w.heap.size) (e := 3) (size := 1) (w.alloc (.cells #[.slice At ts.length ct, .slice As s.len cs] 26)) #[] 0 (by simp) (by simp [maxLen]) rfl
    have hz : (w.alloc (.cells #[.slice At ts.length ct, .slice As s.len cs] 26)).heap.size = w.heap.size + 1 := by simp
    rw [hz] at this
    exact this
  generalize pointsB (validB ts s) s = ds at hS ha
  have HROW0 := Lib.hid hrow0
  have HZ := Lib.hid hz0
  clear hz0 hrow0 hT1 hR1
  by_cases hl : ds.length = 0
  · have hd1 : decide ((0 : Int) < (ds.length : Int)) = false := decide_eq_false (by omega)
    have hnp : ¬ 0 < ds.length := by omega
    clear ha hl
    go_enter Tryz.func20, Tryz.ntmps20
    go_wp2_with fail
    refine hS.mono ?_
    rintro E w1 ⟨v, rfl, hP, hb1⟩
    obtain ⟨Av, cv, hv⟩ := pRow_len hP
    subst hv
    rw [HZ.out] at hb1
    have hs1 := hb1.size
    have hbw : Below w.heap.size w w1 := hb0.trans (hb1.mono (by omega))
    have HR0 : Hid (RowI w1 w.heap.size (.slice (some ⟨w.heap.size + 1, 0, none⟩) 0 0) []) := HROW0.out.below (by rw [HZ.out]; exact hb1)
    clear hP hb1 hS HROW0
    go_wp2_with fail
    go_loopw [5, 7] (fun o i wr => o = .slice (some ⟨w.heap.size + 1, 0, none⟩) 0 0 ∧ i = .int .i64 0 ∧ wr = w1) (fun _ _ _ => 0)
    case atStart => exact ⟨rfl, rfl, rfl⟩
    case round =>
      obtain ⟨rfl, rfl, rfl⟩ := hrel
      go_wp2_with fail
      all_goals first | (go_ret; exact ⟨_, rfl, HR0.out, hbw⟩) | (exfalso; omega)
  by_cases h0 : a < 0
  · have hd1 : decide ((0 : Int) < (ds.length : Int)) = true := decide_eq_true (by omega)
    have hpos : 0 < ds.length := by omega
    have hd2 : decide ((0 : Int) ≤ a) = false := decide_eq_false (by omega)
    clear ha h0 hl
    go_enter Tryz.func20, Tryz.ntmps20
    go_wp2_with fail
    refine hS.mono ?_
    rintro E w1 ⟨v, rfl, hP, hb1⟩
    obtain ⟨Av, cv, hv⟩ := pRow_len hP
    subst hv
    rw [HZ.out] at hb1
    have hs1 := hb1.size
    have hbw : Below w.heap.size w w1 := hb0.trans (hb1.mono (by omega))
    have HR0 : Hid (RowI w1 w.heap.size (.slice (some ⟨w.heap.size + 1, 0, none⟩) 0 0) []) := HROW0.out.below (by rw [HZ.out]; exact hb1)
    clear hP hb1 hS HROW0
    go_wp2_with fail
    go_loopw [5, 7] (fun o i wr => o = .slice (some ⟨w.heap.size + 1, 0, none⟩) 0 0 ∧ i = .int .i64 0 ∧ wr = w1) (fun _ _ _ => 0)
    case atStart => exact ⟨rfl, rfl, rfl⟩
    case round =>
      obtain ⟨rfl, rfl, rfl⟩ := hrel
      go_wp2_with fail
      all_goals first | (go_ret; exact ⟨_, rfl, HR0.out, hbw⟩) | (exfalso; omega)
  · have hd1 : decide ((0 : Int) < (ds.length : Int)) = true := decide_eq_true (by omega)
    have hpos : 0 < ds.length := by omega
    have hd2 : decide ((0 : Int) ≤ a) = true := decide_eq_true (by omega)
    have hd3 : decide (a < (ds.length : Int)) = false := decide_eq_false (by omega)
    clear ha h0 hl
    go_enter Tryz.func20, Tryz.ntmps20
    go_wp2_with fail
    refine hS.mono ?_
    rintro E w1 ⟨v, rfl, hP, hb1⟩
    obtain ⟨Av, cv, hv⟩ := pRow_len hP
    subst hv
    rw [HZ.out] at hb1
    have hs1 := hb1.size
    have hbw : Below w.heap.size w w1 := hb0.trans (hb1.mono (by omega))
    have HR0 : Hid (RowI w1 w.heap.size (.slice (some ⟨w.heap.size + 1, 0, none⟩) 0 0) []) := HROW0.out.below (by rw [HZ.out]; exact hb1)
    clear hP hb1 hS HROW0
    go_wp2_with fail
    go_loopw [5, 7] (fun o i wr => o = .slice (some ⟨w.heap.size + 1, 0, none⟩) 0 0 ∧ i = .int .i64 0 ∧ wr = w1) (fun _ _ _ => 0)
    case atStart => exact ⟨rfl, rfl, rfl⟩
    case round =>
      obtain ⟨rfl, rfl, rfl⟩ := hrel
      go_wp2_with fail
      all_goals first | (go_ret; exact ⟨_, rfl, HR0.out, hbw⟩) | (exfalso; omega)

end Go.Proofs.YtbffldgiccijlaaGreatDoor
