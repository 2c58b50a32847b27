/-
  The model's ShortWay.
-/
import Derived.Test.YtlddoookojjleaaGreatDoorZShP
import Derived.Test.YtlddoookojjleaaGreatDoorZL13
import Derived.Test.YtlddoookojjleaaGreatDoorZL2Xb
namespace Go.Proofs.YtlddoookojjleaaGreatDoor
open Go.RowKit Go.Deep
set_option linter.unusedVariables false

theorem rowNil13 (w w1 : World) (h : w.heap.size ≤ w1.heap.size) : RowI (w1.alloc (.cells #[] 3)) w.heap.size (.slice (some ⟨w1.heap.size, 0, none⟩) 0 0) [] := World.ownsRow_lit (base := w.heap.size) (e := 3) (size := 1) w1 #[] 0 h (by simp [maxLen]) rfl

set_option maxRecDepth 100000 in
set_option maxHeartbeats 1000000 in
theorem specShortWay_any (ts : List Int) (s : Sts) (At As : Option Addr) (ct cs : Nat) (a b : Int) (w : World) (hsz : s.size ≤ 1048576) (hT : IntsV w 0 w.heap.size ts At ct) (hR : RepV w 0 w.heap.size s As cs) :
    Calls Tryz.prog 6 #[.agg #[.slice At ts.length ct, .slice As s.len cs], .int .i64 a, .int .i64 b] w fun E w' => ∃ v l r, E = .returned (.tuple #[v, .bool r]) ∧ RowI w' w.heap.size v l ∧ AnsSW ts s a b l r ∧ Below w.heap.size w w' := by
  have hb0 := (Below.refl w.heap.size w).alloc (Nat.le_refl _) (.cells #[.slice At ts.length ct, .slice As s.len cs] 26)
  have hT1 : IntsV (w.alloc (.cells #[.slice At ts.length ct, .slice As s.len cs] 26)) 0 (w.alloc (.cells #[.slice At ts.length ct, .slice As s.len cs] 26)).heap.size ts At ct := hT.below hb0 (by simp)
  have hR1 : RepV (w.alloc (.cells #[.slice At ts.length ct, .slice As s.len cs] 26)) 0 (w.alloc (.cells #[.slice At ts.length ct, .slice As s.len cs] 26)).heap.size s As cs := hR.below hb0 (by simp)
  have hz0 : (w.alloc (.cells #[.slice At ts.length ct, .slice As s.len cs] 26)).heap.size = w.heap.size + 1 := by simp
  have hS := specPointsOf_any ts s At As ct cs _ hsz hT1 hR1
  have HZ := Lib.hid hz0
  have hpl : (pointsB (validB ts s) s).length ≤ 3000000 := by
    have := s.npts_le
    unfold pointsB
    split
    · rw [progPts_len]; omega
    · simp
  clear hz0 hT1 hR1
  by_cases hin : 0 ≤ a ∧ a < (pointsB (validB ts s) s).length ∧ 0 ≤ b ∧ b < (pointsB (validB ts s) s).length
  · obtain ⟨ha0, ha1, hb0', hb1'⟩ := hin
    have hv : validB ts s = true := by
      cases hv : validB ts s
      · rw [hv] at ha1
        simp [pointsB] at ha1
        omega
      · rfl
    have hpb : pointsB (validB ts s) s = progPts s := by simp [pointsB, hv]
    rw [hpb] at ha1 hb1' hS hpl
    obtain ⟨a, rfl⟩ : ∃ n : Nat, a = (n : Int) := ⟨a.toNat, by omega⟩
    obtain ⟨b, rfl⟩ : ∃ n : Nat, b = (n : Int) := ⟨b.toNat, by omega⟩
    have HD := Lib.hid (valid_D hv)
    have HLE := Lib.hid (valid_61 hv)
    have HV := Lib.hid hv
    have HSF := Lib.hid (nextN_self s a)
    clear hpb hv
    go_enter Tryz.func6, Tryz.ntmps6
    go_wp2_with fail
    refine hS.mono ?_
    rintro E w1 ⟨v, rfl, hP, hb1⟩
    rw [HZ.out] at hb1 hP
    have hbw : Below w.heap.size w w1 := hb0.trans (hb1.mono (by omega))
    have hs1 := hbw.size
    obtain ⟨g, cap, hvv, hgB, hgl, -, -⟩ := hP.form (by omega)
    subst hvv
    have hway := l13Way_any s.npts a b g cap (w.heap.size + 1) (progPts s) w1 HD.out HLE.out HSF.out (by omega) (by omega) hgl hP
    clear hb1 hS hP
    go_wp2_with fail
    refine hway.mono ?_
    intro E w5 hp
    obtain ⟨v, l, r, rfl, hrw, hans, hb5⟩ := WayPost13.ans HV.out (by omega) (by omega) hp
    have HRW := Lib.hid (hrw.mono hs1)
    have HAN := Lib.hid hans
    have hbE := hbw.trans (hb5.mono hs1)
    clear hway hp hrw hans hb5
    go_wp2_with fail
    go_ret2
    exact ⟨v, l, r, rfl, HRW.out, HAN.out, hbE⟩
  · have e : Hid (AnsSW ts s a b [] false) := .inr ⟨fun h => hin ⟨h.2.1, by simp only [pointsB, h.1, if_true]; exact h.2.2.1, h.2.2.2.1, by simp only [pointsB, h.1, if_true]; exact h.2.2.2.2.1⟩, rfl, rfl⟩
    generalize pointsB (validB ts s) s = ds at hS hin hpl
    have HLEN : Hid (∃ n : Int, n = (ds.length : Int)) := ⟨_, rfl⟩
    have hcase : a < 0 ∨ (0 ≤ a ∧ (ds.length : Int) ≤ a) ∨ (0 ≤ a ∧ a < ds.length ∧ b < 0) ∨ (0 ≤ a ∧ a < ds.length ∧ 0 ≤ b ∧ (ds.length : Int) ≤ b) := by omega
    have HC := Lib.hid hcase
    clear hin hcase
    go_enter Tryz.func6, Tryz.ntmps6
    go_wp2_with fail
    refine hS.mono ?_
    rintro E w1 ⟨v, rfl, hP, hb1⟩
    rw [HZ.out] at hb1
    have hbw : Below w.heap.size w w1 := hb0.trans (hb1.mono (by omega))
    have hs1 := hbw.size
    obtain ⟨Av, cv, hv⟩ := hP.slice
    subst hv
    have HRN := Lib.hid (rowNil13 w w1 hs1)
    have HBN := Lib.hid (hbw.alloc hs1 (.cells #[] 3))
    clear hb1 hS hP
    rcases HC.out with h1 | ⟨h1, h2⟩ | ⟨h1, h2, h3⟩ | ⟨h1, h2, h3, h4⟩
    · have d1 : decide (a < 0) = true := decide_eq_true h1
      go_wp2_with fail
      go_ret2
      exact ⟨_, _, _, rfl, HRN.out, e.out, HBN.out⟩
    · have d1 : decide (a < 0) = false := decide_eq_false (by omega)
      go_wp2_with fail
      go_ret2
      exact ⟨_, _, _, rfl, HRN.out, e.out, HBN.out⟩
    · have d1 : decide (a < 0) = false := decide_eq_false (by omega)
      have d2 : decide (b < 0) = true := decide_eq_true h3
      go_wp2_with fail
      go_ret2
      exact ⟨_, _, _, rfl, HRN.out, e.out, HBN.out⟩
    · have d1 : decide (a < 0) = false := decide_eq_false (by omega)
      have d2 : decide (b < 0) = false := decide_eq_false (by omega)
      go_wp2_with fail
      go_ret2
      exact ⟨_, _, _, rfl, HRN.out, e.out, HBN.out⟩

end Go.Proofs.YtlddoookojjleaaGreatDoor
