/-
  The model's PointsOf.
-/
import Derived.Test.YtlddoookojjleaaGreatDoorZL2Xa
namespace Go.Proofs.YtlddoookojjleaaGreatDoor
open Go.RowKit Go.Deep
set_option linter.unusedVariables false

set_option maxHeartbeats 1000000 in
theorem specPointsOf_any (ts : List Int) (s : Sts) (At As : Option Addr) (ct cs : Nat) (w : World) (hsz : s.size ≤ 1048576) (hT : IntsV w 0 w.heap.size ts At ct) (hR : RepV w 0 w.heap.size s As cs) :
    Calls Tryz.prog 16 #[.agg #[.slice At ts.length ct, .slice As s.len cs]] w fun E w' => ∃ v, E = .returned v ∧ PRow w' w.heap.size v (pointsB (validB ts s) s) ∧ Below w.heap.size w w' := by
  have hb0 := (Below.refl w.heap.size w).alloc (Nat.le_refl _) (.cells #[.slice At ts.length ct, .slice As s.len cs] 26)
  have hT1 : IntsV (w.alloc (.cells #[.slice At ts.length ct, .slice As s.len cs] 26)) 0 (w.alloc (.cells #[.slice At ts.length ct, .slice As s.len cs] 26)).heap.size ts At ct := hT.below hb0 (by simp)
  have hR1 : RepV (w.alloc (.cells #[.slice At ts.length ct, .slice As s.len cs] 26)) 0 (w.alloc (.cells #[.slice At ts.length ct, .slice As s.len cs] 26)).heap.size s As cs := hR.below hb0 (by simp)
  have hc0 : (w.alloc (.cells #[.slice At ts.length ct, .slice As s.len cs] 26)).heap[w.heap.size]? = _ := heap_alloc_new w _
  have HC := Lib.hid hc0
  clear hc0
  by_cases h1 : validB ts s = true
  · have H1 := Lib.hid h1
    have e0 : Hid (pointsB (validB ts s) s = progPts s) := by simp [Hid, pointsB, h1]
    have h30 : s.size ≤ 30 := by
      simp only [validB, Bool.and_eq_true, decide_eq_true_eq] at h1
      exact h1.2.2
    clear h1
    go_enter Tryz.func16, Tryz.ntmps16
    go_wp2_with fail
    refine (specProgramValid_any ts s At As ct cs _ hsz hT1 hR1).mono ?_
    rintro E w1 ⟨he, hb1⟩
    rw [H1.out] at he
    subst he
    have hb1' := hb1.block w.heap.size (by simp)
    rw [HC.out] at hb1'
    have d0 : w1.cell? ⟨w.heap.size, 0, none⟩ = some (.slice At ts.length ct) := (cell_of_block hb1' 0).trans rfl
    have d1 : w1.cell? ⟨w.heap.size, 1, none⟩ = some (.slice As s.len cs) := (cell_of_block hb1' 1).trans rfl
    have hs1 := hb1.size
    have hb : Below w.heap.size w w1 := hb0.trans (hb1.mono (by simp))
    have hR2 := hR.below hb hb.size
    clear hb1' hb1 hT1 hR1
    go_wp2_with fail
    refine (l2Points_any ts s At As ct cs _ (by omega) hR2).mono ?_
    rintro E w2 ⟨v, rfl, hP, hb2⟩
    have HP := Lib.hid hP
    clear hP
    go_wp2_with fail
    go_ret
    refine ⟨_, rfl, ?_, hb.trans (hb2.mono hb.size)⟩
    rw [e0.out]
    exact HP.out.mono hb.size
  · have H1 : Hid (validB ts s = false) := by unfold Hid; simpa using h1
    have e0 : Hid (pointsB (validB ts s) s = []) := by simp [Hid, pointsB, h1]
    clear h1
    go_enter Tryz.func16, Tryz.ntmps16
    go_wp2_with fail
    refine (specProgramValid_any ts s At As ct cs _ hsz hT1 hR1).mono ?_
    rintro E w1 ⟨he, hb1⟩
    rw [H1.out] at he
    subst he
    have hb : Below w.heap.size w w1 := hb0.trans (hb1.mono (by simp))
    have HP := Lib.hid (PRow.nil (w := w1) (B := w.heap.size) hb.size)
    go_wp2_with fail
    go_ret
    exact ⟨_, rfl, by rw [e0.out]; exact HP.out, hb.alloc hb.size _⟩

end Go.Proofs.YtlddoookojjleaaGreatDoor
