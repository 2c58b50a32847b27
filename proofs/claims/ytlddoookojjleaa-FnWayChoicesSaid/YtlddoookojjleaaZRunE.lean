/-
  The model's RunPath: every case.
-/
import Derived.Test.YtlddoookojjleaaZL2Xb
import Derived.Test.YtlddoookojjleaaZRunD
namespace Go.Proofs.Ytlddoookojjleaa
open Go.RowKit Go.Deep
set_option linter.unusedVariables false

set_option maxRecDepth 100000 in
set_option maxHeartbeats 2000000 in
theorem specRunPath_any (ts : List Int) (s : Sts) (At As : Option Addr) (ct cs : Nat) (xs : List Int) (A : Option Addr) (c : Nat) (most : Int) (w : World) (hsz : s.size ≤ 1048576) (hT : IntsV w 0 w.heap.size ts At ct) (hR : RepV w 0 w.heap.size s As cs) (hX : IntsV w 0 w.heap.size xs A c) :
    Calls Try.prog 25 #[.agg #[.slice At ts.length ct, .slice As s.len cs], .slice A xs.length c, .int .i64 most] w fun E w' => ∃ v, E = .returned (.tuple #[v, .bool (runI (validB ts s) s xs most).2]) ∧ RowI w' w.heap.size v (runI (validB ts s) s xs most).1 ∧ Below w.heap.size w w' := by
  have hb0 := (((Below.refl w.heap.size w).alloc (Nat.le_refl _) (.cells #[.slice At ts.length ct, .slice As s.len cs] 31)).alloc (by simp) (.cells #[] 3))
  have hT1 := hT.below hb0 (by simp; omega : w.heap.size ≤ ((w.alloc (.cells #[.slice At ts.length ct, .slice As s.len cs] 31)).alloc (.cells #[] 3)).heap.size)
  have hR1 := hR.below hb0 (by simp; omega : w.heap.size ≤ ((w.alloc (.cells #[.slice At ts.length ct, .slice As s.len cs] 31)).alloc (.cells #[] 3)).heap.size)
  have hz0 : ((w.alloc (.cells #[.slice At ts.length ct, .slice As s.len cs] 31)).alloc (.cells #[] 3)).heap.size = w.heap.size + 2 := by simp
  by_cases h1 : validB ts s = true
  · by_cases h2 : 0 ≤ most ∧ most ≤ 1000
    · obtain ⟨m, hm⟩ : ∃ m : Nat, most = (m : Int) := ⟨most.toNat, by omega⟩
      subst hm
      have e0 : runI (validB ts s) s xs m = runP (progPts s) m 0 xs := by
        unfold runI
        rw [if_pos ⟨h1, by omega, by omega⟩, Int.toNat_natCast]
      rw [e0]
      exact specRun_loop ts s At As ct cs xs A c m w hsz h1 (by omega) hT hR hX
    · have e0 : Hid (runI (validB ts s) s xs most = ([], false)) := by
        unfold Hid runI
        rw [if_neg (fun h => h2 h.2)]
      have HN : Hid ((pointsB (validB ts s) s).length = s.npts + 1) := by
        unfold Hid pointsB
        rw [if_pos h1, progPts_len]
      clear h1
      by_cases h3 : most < 0
      · have hrow0 : RowI ((w.alloc (.cells #[.slice At ts.length ct, .slice As s.len cs] 31)).alloc (.cells #[] 3)) w.heap.size (.slice (some ⟨w.heap.size + 1, 0, none⟩) 0 0) [] := by
          have := World.ownsRow_lit (base := w.heap.size) (e := 3) (size := 1) (w.alloc (.cells #[.slice At ts.length ct, .slice As s.len cs] 31)) #[] 0 (by simp) (by simp [maxLen]) rfl
          have hz : (w.alloc (.cells #[.slice At ts.length ct, .slice As s.len cs] 31)).heap.size = w.heap.size + 1 := by simp
          rw [hz] at this
          exact this
        have HROW0 := Lib.hid hrow0
        have HZ := Lib.hid hz0
        have hS := specPointsOf_any ts s At As ct cs _ hsz hT1 hR1
        have hq0 : (pointsB (validB ts s) s).length ≤ 3000000 := by
          have := s.npts_le
          unfold pointsB
          split
          · rw [progPts_len]; omega
          · simp
        have hd1 : decide (most < 0) = true := decide_eq_true h3
        have hq1 : ((s.npts : Int) + 1 == 0) = false := by simp; omega
        clear hrow0 hz0
        go_enter Try.func25, Try.ntmps25
        go_wp2_with fail
        refine hS.mono ?_
        rintro E w1 ⟨v, rfl, hP, hb1⟩
        rw [HZ.out] at hP hb1
        have hbw : Below w.heap.size w w1 := hb0.trans (hb1.mono (by omega))
        obtain ⟨Av, cv, hv⟩ := hP.slice
        rw [HN.out] at hv
        subst hv
        have HR0 : Hid (RowI w1 w.heap.size (.slice (some ⟨w.heap.size + 1, 0, none⟩) 0 0) []) := HROW0.out.below (by rw [HZ.out]; exact hb1)
        clear hP hb1 hS HROW0
        go_wp2_with fail
        go_ret2
        exact ⟨_, by rw [e0.out]; rfl, by rw [e0.out]; exact HR0.out, hbw⟩

      · have h4 : 1000 < most := by omega
        have hrow0 : RowI ((w.alloc (.cells #[.slice At ts.length ct, .slice As s.len cs] 31)).alloc (.cells #[] 3)) w.heap.size (.slice (some ⟨w.heap.size + 1, 0, none⟩) 0 0) [] := by
          have := World.ownsRow_lit (base := w.heap.size) (e := 3) (size := 1) (w.alloc (.cells #[.slice At ts.length ct, .slice As s.len cs] 31)) #[] 0 (by simp) (by simp [maxLen]) rfl
          have hz : (w.alloc (.cells #[.slice At ts.length ct, .slice As s.len cs] 31)).heap.size = w.heap.size + 1 := by simp
          rw [hz] at this
          exact this
        have HROW0 := Lib.hid hrow0
        have HZ := Lib.hid hz0
        have hS := specPointsOf_any ts s At As ct cs _ hsz hT1 hR1
        have hq0 : (pointsB (validB ts s) s).length ≤ 3000000 := by
          have := s.npts_le
          unfold pointsB
          split
          · rw [progPts_len]; omega
          · simp
        have hd1 : decide (most < 0) = false := decide_eq_false h3
        have hd2 : decide (1000 < most) = true := decide_eq_true h4
        have hq1 : ((s.npts : Int) + 1 == 0) = false := by simp; omega
        clear hrow0 hz0
        go_enter Try.func25, Try.ntmps25
        go_wp2_with fail
        refine hS.mono ?_
        rintro E w1 ⟨v, rfl, hP, hb1⟩
        rw [HZ.out] at hP hb1
        have hbw : Below w.heap.size w w1 := hb0.trans (hb1.mono (by omega))
        obtain ⟨Av, cv, hv⟩ := hP.slice
        rw [HN.out] at hv
        subst hv
        have HR0 : Hid (RowI w1 w.heap.size (.slice (some ⟨w.heap.size + 1, 0, none⟩) 0 0) []) := HROW0.out.below (by rw [HZ.out]; exact hb1)
        clear hP hb1 hS HROW0
        go_wp2_with fail
        go_ret2
        exact ⟨_, by rw [e0.out]; rfl, by rw [e0.out]; exact HR0.out, hbw⟩

  · have h1' : validB ts s = false := by simpa using h1
    have e0 : Hid (runI (validB ts s) s xs most = ([], false)) := by
      unfold Hid runI
      rw [if_neg (fun h => h1 h.1)]
    have HN : Hid ((pointsB (validB ts s) s).length = 0) := by
      unfold Hid pointsB
      rw [h1']
      rfl
    clear h1 h1'
    have hrow0 : RowI ((w.alloc (.cells #[.slice At ts.length ct, .slice As s.len cs] 31)).alloc (.cells #[] 3)) w.heap.size (.slice (some ⟨w.heap.size + 1, 0, none⟩) 0 0) [] := by
      have := World.ownsRow_lit (base := w.heap.size) (e := 3) (size := 1) (w.alloc (.cells #[.slice At ts.length ct, .slice As s.len cs] 31)) #[] 0 (by simp) (by simp [maxLen]) rfl
      have hz : (w.alloc (.cells #[.slice At ts.length ct, .slice As s.len cs] 31)).heap.size = w.heap.size + 1 := by simp
      rw [hz] at this
      exact this
    have HROW0 := Lib.hid hrow0
    have HZ := Lib.hid hz0
    have hS := specPointsOf_any ts s At As ct cs _ hsz hT1 hR1
    have hq0 : (pointsB (validB ts s) s).length ≤ 3000000 := by
      have := s.npts_le
      unfold pointsB
      split
      · rw [progPts_len]; omega
      · simp
    clear hrow0 hz0
    go_enter Try.func25, Try.ntmps25
    go_wp2_with fail
    refine hS.mono ?_
    rintro E w1 ⟨v, rfl, hP, hb1⟩
    rw [HZ.out] at hP hb1
    have hbw : Below w.heap.size w w1 := hb0.trans (hb1.mono (by omega))
    obtain ⟨Av, cv, hv⟩ := hP.slice
    rw [HN.out] at hv
    subst hv
    have HR0 : Hid (RowI w1 w.heap.size (.slice (some ⟨w.heap.size + 1, 0, none⟩) 0 0) []) := HROW0.out.below (by rw [HZ.out]; exact hb1)
    clear hP hb1 hS HROW0
    go_wp2_with fail
    go_ret2
    exact ⟨_, by rw [e0.out]; rfl, by rw [e0.out]; exact HR0.out, hbw⟩

end Go.Proofs.Ytlddoookojjleaa
