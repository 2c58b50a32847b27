/-
  The model's AlwaysReaches.
-/
import Derived.Test.YtfkhgdbnjcdlmaaGreatDoorZL12H
namespace Go.Proofs.YtfkhgdbnjcdlmaaGreatDoor
open Go.RowKit Go.Deep
set_option linter.unusedVariables false

/-- What AlwaysReaches answers. -/
noncomputable def rchAB (nx : Nat → List Nat) (n a b : Nat) : Bool := @decide (RchP nx n a b) (Classical.propDecidable _)

theorem rchAB_flag {nx : Nat → List Nat} {n a b : Nat} {f : Bool} (h : f = true ↔ WayW nx b a (n - 1)) : rchAB nx n a b = !f := by
  unfold rchAB
  cases f
  · exact @decide_eq_true _ (Classical.propDecidable _) (fun hw => by have := h.mpr hw; cases this)
  · exact @decide_eq_false _ (Classical.propDecidable _) (fun hd => hd (h.mp rfl))

theorem rchAB_self (nx : Nat → List Nat) (n a : Nat) : rchAB nx n a a = true := @decide_eq_true _ (Classical.propDecidable _) (RchP.self nx n a)

noncomputable def rchI (ok : Bool) (s : Sts) (a b : Int) : Bool := hasB (pointsB ok s) a b && rchAB (nextN (progPts s)) (progPts s).length a.toNat b.toNat

set_option maxRecDepth 100000 in
set_option maxHeartbeats 600000 in
theorem specAlwaysReaches_any (ts : List Int) (s : Sts) (At As : Option Addr) (ct cs : Nat) (a b : Int) (w : World) (hsz : s.size ≤ 1048576) (hT : IntsV w 0 w.heap.size ts At ct) (hR : RepV w 0 w.heap.size s As cs) :
    Calls Tryz.prog 27 #[.agg #[.slice At ts.length ct, .slice As s.len cs], .int .i64 a, .int .i64 b] w fun E w' => E = .returned (.bool (rchI (validB ts s) s a b)) ∧ Below w.heap.size w w' := by
  have hb0 := (Below.refl w.heap.size w).alloc (Nat.le_refl _) (.cells #[.slice At ts.length ct, .slice As s.len cs] 26)
  have hT1 : IntsV (w.alloc (.cells #[.slice At ts.length ct, .slice As s.len cs] 26)) 0 (w.alloc (.cells #[.slice At ts.length ct, .slice As s.len cs] 26)).heap.size ts At ct := hT.below hb0 (by simp)
  have hR1 : RepV (w.alloc (.cells #[.slice At ts.length ct, .slice As s.len cs] 26)) 0 (w.alloc (.cells #[.slice At ts.length ct, .slice As s.len cs] 26)).heap.size s As cs := hR.below hb0 (by simp)
  have hz0 : (w.alloc (.cells #[.slice At ts.length ct, .slice As s.len cs] 26)).heap.size = w.heap.size + 1 := by simp
  have hc0 : (w.alloc (.cells #[.slice At ts.length ct, .slice As s.len cs] 26)).heap[w.heap.size]? = _ := heap_alloc_new w _
  have HC := Lib.hid hc0
  clear hc0
  have hS := l12Has_any ts s At As ct cs a b _ hsz hT1 hR1
  have HZ := Lib.hid hz0
  clear hz0 hT1 hR1
  cases hh : hasB (pointsB (validB ts s) s) a b
  · rw [hh] at hS
    have e : Hid (rchI (validB ts s) s a b = false) := by simp [Hid, rchI, hh]
    clear hh
    go_enter Tryz.func27, Tryz.ntmps27
    go_wp2_with fail
    refine hS.mono ?_
    rintro E w1 ⟨rfl, hb1⟩
    rw [HZ.out] at hb1
    have hbw : Below w.heap.size w w1 := hb0.trans (hb1.mono (by omega))
    clear hb1 hS
    go_wp2_with fail
    go_ret
    rw [e.out]
    exact ⟨rfl, by first | exact hbw | exact hbw.drew⟩
  · rw [hh] at hS
    have hin := hh
    simp only [hasB, decide_eq_true_eq] at hin
    obtain ⟨hv, hpb⟩ : validB ts s = true ∧ pointsB (validB ts s) s = progPts s := by
      cases hv : validB ts s
      · rw [hv] at hin
        simp [pointsB] at hin
        omega
      · exact ⟨rfl, by simp [pointsB]⟩
    have e : Hid (rchI (validB ts s) s a b = rchAB (nextN (progPts s)) (progPts s).length a.toNat b.toNat) := by simp [Hid, rchI, hh]
    rw [hpb] at hin
    have hD := progPts_ok s (valid_ok hv).2.1
    have hle := progPts_61 hv
    have h30 := valid_size hv
    obtain ⟨a, rfl⟩ : ∃ n : Nat, a = (n : Int) := ⟨a.toNat, by omega⟩
    obtain ⟨b, rfl⟩ : ∃ n : Nat, b = (n : Int) := ⟨b.toNat, by omega⟩
    rw [Int.toNat_natCast, Int.toNat_natCast] at e
    have HV := Lib.hid hv
    have HD := Lib.hid hD
    clear hh hpb hv hD
    go_enter Tryz.func27, Tryz.ntmps27
    go_wp2_with fail
    refine hS.mono ?_
    rintro E w1 ⟨rfl, hb1⟩
    have hb1' := hb1.block w.heap.size (by simp)
    rw [HC.out] at hb1'
    have d0 : w1.cell? ⟨w.heap.size, 0, none⟩ = some (.slice At ts.length ct) := (cell_of_block hb1' 0).trans rfl
    have d1 : w1.cell? ⟨w.heap.size, 1, none⟩ = some (.slice As s.len cs) := (cell_of_block hb1' 1).trans rfl
    rw [HZ.out] at hb1
    have hbw : Below w.heap.size w w1 := hb0.trans (hb1.mono (by omega))
    have hs1 := hbw.size
    have hL := l2Points_any ts s At As ct cs w1 (by omega) (hR.below hbw hbw.size)
    clear hb1 hS hb1'
    go_wp2_with fail
    refine hL.mono ?_
    rintro E w2 ⟨v, rfl, hP, hb2⟩
    have hb3 := hbw.trans (hb2.mono hs1)
    have hs2 := hb3.size
    obtain ⟨g, cap, hv, hgB, hgl, -, -⟩ := hP.form (by omega)
    subst hv
    by_cases hab : a = b
    · subst hab
      have hd1 : ((a : Int) == (a : Int)) = true := by simp
      rw [rchAB_self] at e
      clear hL hP hb2 d0 d1
      go_wp2_with fail
      go_ret
      rw [e.out]
      exact ⟨rfl, by first | exact hb3 | exact hb3.drew⟩
    have hd0 : decide ((a : Int) = (b : Int)) = false := decide_eq_false (by omega)
    have hd1 : ((a : Int) == (b : Int)) = false := by simp; omega
    have hl := l12Reach_any s.npts a b g cap w1.heap.size (progPts s) w2 HD.out hle (by omega) hgl hP
    obtain ⟨m, hm⟩ : ∃ m, (progPts s).length = m + 1 := ⟨(progPts s).length - 1, by omega⟩
    have hlm : (((progPts s).length : Nat) : Int) - 1 = (m : Int) := by omega
    replace hm := Lib.hid hm
    clear hL hP hb2 d0 d1
    go_wp2_with fail
    refine hl.mono ?_
    rintro E w3 ⟨F, fl, rfl, hF, hfl, hw, hb4⟩
    have hcell := hfl.cell (i := m) (by have := hm.out; omega)
    have hb5 := hb3.trans (hb4.mono hs2)
    have e2 := Lib.hid (rchAB_flag (nx := nextN (progPts s)) (n := (progPts s).length) (a := a) (b := b) (f := fl m) (by rw [hm.out, Nat.add_sub_cancel]; exact hw m (by have := hm.out; omega)))
    clear hl hfl hw hb4
    go_wp2_with fail
    go_ret
    rw [e.out, e2.out]
    exact ⟨rfl, by first | exact hb5 | exact hb5.drew⟩

end Go.Proofs.YtfkhgdbnjcdlmaaGreatDoor
