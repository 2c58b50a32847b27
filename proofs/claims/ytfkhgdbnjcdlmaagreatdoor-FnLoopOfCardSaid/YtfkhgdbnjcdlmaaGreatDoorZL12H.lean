/-
  The model's questions of what dominates and what is always reached.
-/
import Derived.Test.YtfkhgdbnjcdlmaaGreatDoorZL2Xb
import Derived.Test.YtfkhgdbnjcdlmaaGreatDoorZL12R
import Derived.Test.YtfkhgdbnjcdlmaaGreatDoorZBase
import Derived.Test.YtfkhgdbnjcdlmaaGreatDoorZStmtY
namespace Go.Proofs.YtfkhgdbnjcdlmaaGreatDoor
open Go.RowKit Go.Deep
set_option linter.unusedVariables false

theorem pRow_len12 {w : World} {B : Nat} {v : Value} {ns : List Nd} (h : PRow w B v ns) : ∃ A c, v = .slice A ns.length c := by
  obtain ⟨xs, ho, _⟩ := h
  rcases ho.2 with ⟨hv, h0⟩ | ⟨g, cap, cur, hv, _⟩
  · exact ⟨none, 0, by rw [hv, h0]⟩
  · exact ⟨_, _, hv⟩

/-- Whether there are two points. -/
def hasB (ds : List Nd) (a b : Int) : Bool := decide (0 ≤ a ∧ a < (ds.length : Int) ∧ 0 ≤ b ∧ b < (ds.length : Int))

theorem progPts_61 {ts : List Int} {s : Sts} (h : validB ts s = true) : (progPts s).length ≤ 61 := by
  have := s.npts_le
  have := valid_size h
  rw [progPts_len]
  omega

set_option maxRecDepth 100000 in
set_option maxHeartbeats 600000 in
theorem l12Has_any (ts : List Int) (s : Sts) (At As : Option Addr) (ct cs : Nat) (a b : Int) (w : World) (hsz : s.size ≤ 1048576) (hT : IntsV w 0 w.heap.size ts At ct) (hR : RepV w 0 w.heap.size s As cs) :
    Calls Tryz.prog 37 #[.agg #[.slice At ts.length ct, .slice As s.len cs], .int .i64 a, .int .i64 b] w fun E w' => E = .returned (.bool (hasB (pointsB (validB ts s) s) a b)) ∧ Below w.heap.size w w' := by
  have hb0 := (Below.refl w.heap.size w).alloc (Nat.le_refl _) (.cells #[.slice At ts.length ct, .slice As s.len cs] 26)
  have hT1 : IntsV (w.alloc (.cells #[.slice At ts.length ct, .slice As s.len cs] 26)) 0 (w.alloc (.cells #[.slice At ts.length ct, .slice As s.len cs] 26)).heap.size ts At ct := hT.below hb0 (by simp)
  have hR1 : RepV (w.alloc (.cells #[.slice At ts.length ct, .slice As s.len cs] 26)) 0 (w.alloc (.cells #[.slice At ts.length ct, .slice As s.len cs] 26)).heap.size s As cs := hR.below hb0 (by simp)
  have hz0 : (w.alloc (.cells #[.slice At ts.length ct, .slice As s.len cs] 26)).heap.size = w.heap.size + 1 := by simp
  have hS := specPointsOf_any ts s At As ct cs _ hsz hT1 hR1
  generalize pointsB (validB ts s) s = ds at hS ⊢
  have HZ := Lib.hid hz0
  clear hz0 hT1 hR1
  by_cases c0 : ¬ (0 ≤ a)
  · have e : Hid (hasB ds a b = false) := by unfold Hid hasB; exact decide_eq_false (by omega)
    have hd0 : decide ((0 : Int) ≤ a) = false := decide_eq_false (by omega)
    clear c0
    go_enter Tryz.func37, Tryz.ntmps37
    go_wp2_with fail
    refine hS.mono ?_
    rintro E w1 ⟨v, rfl, hP, hb1⟩
    obtain ⟨Av, cv, hv⟩ := pRow_len12 hP
    subst hv
    rw [HZ.out] at hb1
    have hbw : Below w.heap.size w w1 := hb0.trans (hb1.mono (by omega))
    clear hP hb1 hS
    go_wp2_with fail
    go_ret
    rw [e.out]
    exact ⟨rfl, by first | exact hbw | exact hbw.drew⟩
  by_cases c1 : ¬ (a < (ds.length : Int))
  · have e : Hid (hasB ds a b = false) := by unfold Hid hasB; exact decide_eq_false (by omega)
    have hd0 : decide ((0 : Int) ≤ a) = true := decide_eq_true (by omega)
    have hd1 : decide (a < (ds.length : Int)) = false := decide_eq_false (by omega)
    clear c0 c1
    go_enter Tryz.func37, Tryz.ntmps37
    go_wp2_with fail
    refine hS.mono ?_
    rintro E w1 ⟨v, rfl, hP, hb1⟩
    obtain ⟨Av, cv, hv⟩ := pRow_len12 hP
    subst hv
    rw [HZ.out] at hb1
    have hbw : Below w.heap.size w w1 := hb0.trans (hb1.mono (by omega))
    clear hP hb1 hS
    go_wp2_with fail
    go_ret
    rw [e.out]
    exact ⟨rfl, by first | exact hbw | exact hbw.drew⟩
  by_cases c2 : ¬ (0 ≤ b)
  · have e : Hid (hasB ds a b = false) := by unfold Hid hasB; exact decide_eq_false (by omega)
    have hd0 : decide ((0 : Int) ≤ a) = true := decide_eq_true (by omega)
    have hd1 : decide (a < (ds.length : Int)) = true := decide_eq_true (by omega)
    have hd2 : decide ((0 : Int) ≤ b) = false := decide_eq_false (by omega)
    clear c0 c1 c2
    go_enter Tryz.func37, Tryz.ntmps37
    go_wp2_with fail
    refine hS.mono ?_
    rintro E w1 ⟨v, rfl, hP, hb1⟩
    obtain ⟨Av, cv, hv⟩ := pRow_len12 hP
    subst hv
    rw [HZ.out] at hb1
    have hbw : Below w.heap.size w w1 := hb0.trans (hb1.mono (by omega))
    clear hP hb1 hS
    go_wp2_with fail
    go_ret
    rw [e.out]
    exact ⟨rfl, by first | exact hbw | exact hbw.drew⟩
  by_cases c3 : ¬ (b < (ds.length : Int))
  · have e : Hid (hasB ds a b = false) := by unfold Hid hasB; exact decide_eq_false (by omega)
    have hd0 : decide ((0 : Int) ≤ a) = true := decide_eq_true (by omega)
    have hd1 : decide (a < (ds.length : Int)) = true := decide_eq_true (by omega)
    have hd2 : decide ((0 : Int) ≤ b) = true := decide_eq_true (by omega)
    have hd3 : decide (b < (ds.length : Int)) = false := decide_eq_false (by omega)
    clear c0 c1 c2 c3
    go_enter Tryz.func37, Tryz.ntmps37
    go_wp2_with fail
    refine hS.mono ?_
    rintro E w1 ⟨v, rfl, hP, hb1⟩
    obtain ⟨Av, cv, hv⟩ := pRow_len12 hP
    subst hv
    rw [HZ.out] at hb1
    have hbw : Below w.heap.size w w1 := hb0.trans (hb1.mono (by omega))
    clear hP hb1 hS
    go_wp2_with fail
    go_ret
    rw [e.out]
    exact ⟨rfl, by first | exact hbw | exact hbw.drew⟩
  have e : Hid (hasB ds a b = true) := by unfold Hid hasB; exact decide_eq_true (by omega)
  have hd0 : decide ((0 : Int) ≤ a) = true := decide_eq_true (by omega)
  have hd1 : decide (a < (ds.length : Int)) = true := decide_eq_true (by omega)
  have hd2 : decide ((0 : Int) ≤ b) = true := decide_eq_true (by omega)
  have hd3 : decide (b < (ds.length : Int)) = true := decide_eq_true (by omega)
  clear c0 c1 c2 c3
  go_enter Tryz.func37, Tryz.ntmps37
  go_wp2_with fail
  refine hS.mono ?_
  rintro E w1 ⟨v, rfl, hP, hb1⟩
  obtain ⟨Av, cv, hv⟩ := pRow_len12 hP
  subst hv
  rw [HZ.out] at hb1
  have hbw : Below w.heap.size w w1 := hb0.trans (hb1.mono (by omega))
  clear hP hb1 hS
  go_wp2_with fail
  go_ret
  rw [e.out]
  exact ⟨rfl, by first | exact hbw | exact hbw.drew⟩


end Go.Proofs.YtfkhgdbnjcdlmaaGreatDoor
