/-
  The model's Dominates.
-/
import Derived.Test.YtfkhgdbnjcdlmaaGreatDoorZL12H
namespace Go.Proofs.YtfkhgdbnjcdlmaaGreatDoor
open Go.RowKit Go.Deep
set_option linter.unusedVariables false

/-- Whether a dominates b. -/
noncomputable def domAB (nx : Nat → List Nat) (a b : Nat) : Bool := @decide (DomP nx a b) (Classical.propDecidable _)

theorem domAB_flag {nx : Nat → List Nat} {a b : Nat} {f : Bool} (h : f = true ↔ WayW nx a 0 b) : domAB nx a b = !f := by
  unfold domAB
  cases f
  · exact @decide_eq_true _ (Classical.propDecidable _) (fun hw => by have := h.mpr hw; cases this)
  · exact @decide_eq_false _ (Classical.propDecidable _) (fun hd => hd (h.mp rfl))

theorem domAB_self (nx : Nat → List Nat) (a : Nat) : domAB nx a a = true := @decide_eq_true _ (Classical.propDecidable _) (DomP.self nx a)

set_option maxRecDepth 100000 in
set_option maxHeartbeats 600000 in
theorem l12Dominates_any (q a b g cap B : Nat) (ns : List Nd) (w : World) (hD : PtsOk q ns) (hle : ns.length ≤ 61) (ha : a < ns.length) (hbn : b < ns.length) (hg : g < w.heap.size) (hP : PRow w B (.slice (some ⟨g, 0, none⟩) ns.length cap) ns) :
    Calls Tryz.prog 38 #[.slice (some ⟨g, 0, none⟩) ns.length cap, .int .i64 a, .int .i64 b] w fun E w' => E = .returned (.bool (domAB (nextN ns) a b)) ∧ Below w.heap.size w w' := by
  by_cases hab : a = b
  · subst hab
    have hd1 : ((a : Int) == (a : Int)) = true := by simp
    rw [domAB_self]
    clear hP hD
    go_enter Tryz.func38, Tryz.ntmps38
    go_wp2_with fail
    go_ret
    exact ⟨rfl, by first | exact Below.refl _ _ | exact (Below.refl _ _).drew⟩
  · have hd0 : decide ((a : Int) = (b : Int)) = false := decide_eq_false (by omega)
    have hd1 : ((a : Int) == (b : Int)) = false := by simp; omega
    have hl := l12Reach_any q 0 a g cap B ns w hD hle (by omega) hg hP
    clear hP hD
    go_enter Tryz.func38, Tryz.ntmps38
    go_wp2_with fail
    refine hl.mono ?_
    rintro E w1 ⟨F, fl, rfl, hF, hfl, hw, hb1⟩
    have hcell := hfl.cell hbn
    have e := Lib.hid (domAB_flag (hw b hbn))
    clear hl hfl hw
    go_wp2_with fail
    go_ret
    rw [e.out]
    exact ⟨rfl, by first | exact hb1 | exact hb1.drew⟩

/-- What Dominates answers. -/
noncomputable def domI (ok : Bool) (s : Sts) (a b : Int) : Bool := hasB (pointsB ok s) a b && domAB (nextN (progPts s)) a.toNat b.toNat

set_option maxRecDepth 100000 in
set_option maxHeartbeats 600000 in
theorem specDominates_any (ts : List Int) (s : Sts) (At As : Option Addr) (ct cs : Nat) (a b : Int) (w : World) (hsz : s.size ≤ 1048576) (hT : IntsV w 0 w.heap.size ts At ct) (hR : RepV w 0 w.heap.size s As cs) :
    Calls Tryz.prog 13 #[.agg #[.slice At ts.length ct, .slice As s.len cs], .int .i64 a, .int .i64 b] w fun E w' => E = .returned (.bool (domI (validB ts s) s a b)) ∧ Below w.heap.size w w' := by
  have hb0 := (Below.refl w.heap.size w).alloc (Nat.le_refl _) (.cells #[.slice At ts.length ct, .slice As s.len cs] 26)
  have hT1 : IntsV (w.alloc (.cells #[.slice At ts.length ct, .slice As s.len cs] 26)) 0 (w.alloc (.cells #[.slice At ts.length ct, .slice As s.len cs] 26)).heap.size ts At ct := hT.below hb0 (by simp)
  have hR1 : RepV (w.alloc (.cells #[.slice At ts.length ct, .slice As s.len cs] 26)) 0 (w.alloc (.cells #[.slice At ts.length ct, .slice As s.len cs] 26)).heap.size s As cs := hR.below hb0 (by simp)
  have hz0 : (w.alloc (.cells #[.slice At ts.length ct, .slice As s.len cs] 26)).heap.size = w.heap.size + 1 := by simp
  have hc0 : (w.alloc (.cells #[.slice At ts.length ct, .slice As s.len cs] 26)).heap[w.heap.size]? = _ := heap_alloc_new w _
  have HC := Lib.hid hc0
  clear hc0
  have hS := l12Has_any ts s At As ct cs a b _ hsz hT1 hR1
  have HZ := Lib.hid hz0
  clear hz0 hT1 hR1
  cases hh : hasB (pointsB (validB ts s) s) a b
  · rw [hh] at hS
    have e : Hid (domI (validB ts s) s a b = false) := by simp [Hid, domI, hh]
    clear hh
    go_enter Tryz.func13, Tryz.ntmps13
    go_wp2_with fail
    refine hS.mono ?_
    rintro E w1 ⟨rfl, hb1⟩
    rw [HZ.out] at hb1
    have hbw : Below w.heap.size w w1 := hb0.trans (hb1.mono (by omega))
    clear hb1 hS
    go_wp2_with fail
    go_ret
    rw [e.out]
    exact ⟨rfl, by first | exact hbw | exact hbw.drew⟩
  · rw [hh] at hS
    have hin := hh
    simp only [hasB, decide_eq_true_eq] at hin
    obtain ⟨hv, hpb⟩ : validB ts s = true ∧ pointsB (validB ts s) s = progPts s := by
      cases hv : validB ts s
      · rw [hv] at hin
        simp [pointsB] at hin
        omega
      · exact ⟨rfl, by simp [pointsB]⟩
    have e : Hid (domI (validB ts s) s a b = domAB (nextN (progPts s)) a.toNat b.toNat) := by simp [Hid, domI, hh]
    rw [hpb] at hin
    have hD := progPts_ok s (valid_ok hv).2.1
    have hle := progPts_61 hv
    have h30 := valid_size hv
    obtain ⟨a, rfl⟩ : ∃ n : Nat, a = (n : Int) := ⟨a.toNat, by omega⟩
    obtain ⟨b, rfl⟩ : ∃ n : Nat, b = (n : Int) := ⟨b.toNat, by omega⟩
    rw [Int.toNat_natCast, Int.toNat_natCast] at e
    have HV := Lib.hid hv
    have HD := Lib.hid hD
    clear hh hpb hv hD
    go_enter Tryz.func13, Tryz.ntmps13
    go_wp2_with fail
    refine hS.mono ?_
    rintro E w1 ⟨rfl, hb1⟩
    have hb1' := hb1.block w.heap.size (by simp)
    rw [HC.out] at hb1'
    have d0 : w1.cell? ⟨w.heap.size, 0, none⟩ = some (.slice At ts.length ct) := (cell_of_block hb1' 0).trans rfl
    have d1 : w1.cell? ⟨w.heap.size, 1, none⟩ = some (.slice As s.len cs) := (cell_of_block hb1' 1).trans rfl
    rw [HZ.out] at hb1
    have hbw : Below w.heap.size w w1 := hb0.trans (hb1.mono (by omega))
    have hs1 := hbw.size
    have hL := l2Points_any ts s At As ct cs w1 (by omega) (hR.below hbw hbw.size)
    clear hb1 hS hb1'
    go_wp2_with fail
    refine hL.mono ?_
    rintro E w2 ⟨v, rfl, hP, hb2⟩
    have hb3 := hbw.trans (hb2.mono hs1)
    have hs2 := hb3.size
    obtain ⟨g, cap, hv, hgB, hgl, -, -⟩ := hP.form (by omega)
    subst hv
    have hdm := l12Dominates_any s.npts a b g cap w1.heap.size (progPts s) w2 HD.out hle (by omega) (by omega) hgl hP
    clear hL hP hb2 d0 d1
    go_wp2_with fail
    refine hdm.mono ?_
    rintro E w3 ⟨rfl, hb4⟩
    have hb5 := hb3.trans (hb4.mono hs2)
    clear hdm hb4
    go_wp2_with fail
    go_ret
    rw [e.out]
    exact ⟨rfl, by first | exact hb5 | exact hb5.drew⟩


end Go.Proofs.YtfkhgdbnjcdlmaaGreatDoor
