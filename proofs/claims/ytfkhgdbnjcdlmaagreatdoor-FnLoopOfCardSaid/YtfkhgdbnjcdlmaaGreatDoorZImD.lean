/-
  The program's Dominates and AlwaysReaches.
-/
import Derived.Test.YtfkhgdbnjcdlmaaGreatDoorZRchI
import Derived.Test.YtfkhgdbnjcdlmaaGreatDoorZL12H
import Derived.Test.YtfkhgdbnjcdlmaaGreatDoorZL12D
import Derived.Test.YtfkhgdbnjcdlmaaGreatDoorZL12A
import Derived.Test.YtfkhgdbnjcdlmaaGreatDoorZGrX
import Derived.Test.YtfkhgdbnjcdlmaaGreatDoorZBhG
namespace Go.Proofs.YtfkhgdbnjcdlmaaGreatDoor
open Go.RowKit Go.Deep
set_option linter.unusedVariables false

set_option maxHeartbeats 1000000 in
theorem last_any (C m : Nat) (ns : List Nd) (w : World) (hG : Gr C w ns) (hm : Hid (ns.length = m + 1)) :
    Calls Tryz.prog 51 #[.pointer (some ⟨C, 0, none⟩)] w fun E w' => E = .returned (.int .i64 (m : Int)) ∧ Below w.heap.size w w' := by
  have hc := hG.count
  have hle := hG.le
  have e : (ns.length : Int) - 1 = (m : Int) := by have := hm.out; omega
  clear hG
  go_enter Tryz.func51, Tryz.ntmps51
  go_wp2_with fail
  go_ret
  exact ⟨rfl, by first | exact Below.refl _ _ | exact (Below.refl _ _).drew⟩

set_option maxRecDepth 100000 in
set_option maxHeartbeats 1000000 in
theorem implDominates_any (ts : List Int) (s : Sts) (At As : Option Addr) (ct cs : Nat) (a b : Int) (w : World) (hT : IntsV w 0 w.heap.size ts At ct) (hR : RepV w 0 w.heap.size s As cs) (hTab : TabAt 0 Lib.deBruijn64tab w) (hg : 0 < w.heap.size) :
    Calls Tryz.prog 12 #[.agg #[.slice At ts.length ct, .slice As s.len cs], .int .i64 a, .int .i64 b] w fun E w' => E = .returned (.bool (domI (validB ts s) s a b)) ∧ Below w.heap.size w w' := by
  have hb0 := (Below.refl w.heap.size w).alloc (Nat.le_refl _) (.cells #[.slice At ts.length ct, .slice As s.len cs] 26)
  have hT1 : IntsV (w.alloc (.cells #[.slice At ts.length ct, .slice As s.len cs] 26)) 0 (w.alloc (.cells #[.slice At ts.length ct, .slice As s.len cs] 26)).heap.size ts At ct := hT.below hb0 (by simp)
  have hR1 : RepV (w.alloc (.cells #[.slice At ts.length ct, .slice As s.len cs] 26)) 0 (w.alloc (.cells #[.slice At ts.length ct, .slice As s.len cs] 26)).heap.size s As cs := hR.below hb0 (by simp)
  have hz0 : (w.alloc (.cells #[.slice At ts.length ct, .slice As s.len cs] 26)).heap.size = w.heap.size + 1 := by simp
  have HZ := Lib.hid hz0
  clear hz0
  cases hv : validB ts s
  · have hS := graphOf_no ts s At As ct cs _ hv hT1 hR1
    have e : Hid (domI false s a b = false) := by
      have : hasB (pointsB false s) a b = false := decide_eq_false (by simp [pointsB] <;> omega)
      simp [Hid, domI, this]
    clear hT1 hR1 hv
    go_enter Tryz.func12, Tryz.ntmps12
    go_wp2_with fail
    refine hS.mono ?_
    rintro E w1 ⟨rfl, hb1⟩
    rw [HZ.out] at hb1
    have hb : Below w.heap.size w w1 := hb0.trans (hb1.mono (by omega))
    clear hb1 hS
    go_wp2_with fail
    go_ret
    rw [e.out]
    exact ⟨rfl, by first | exact hb | exact hb.drew⟩
  have hS := graphOf_yes ts s At As ct cs _ hv hT1 hR1
  have hD := progPts_ok s (valid_ok hv).2.1
  have hq0 := progPts_61 hv
  have HE : Hid (domI true s a b = (hasB (progPts s) a b && domAB (nextN (progPts s)) a.toNat b.toNat)) := by simp [Hid, domI, pointsB]
  generalize progPts s = ds at hS hD hq0 HE ⊢
  generalize s.npts = q at hD
  have HD := Lib.hid hD
  have HT := Lib.hid hTab
  clear hD hTab hT1 hR1 hv
  by_cases ha : a < 0 ∨ (ds.length : Int) ≤ a
  · have e : Hid (domI true s a b = false) := by
      have : hasB ds a b = false := decide_eq_false (by omega)
      unfold Hid
      rw [HE.out, this, Bool.false_and]
    go_enter Tryz.func12, Tryz.ntmps12
    go_wp2_with fail
    refine hS.mono ?_
    rintro E w1 ⟨C, rfl, hC, hG, hb1⟩
    rw [HZ.out] at hC hb1
    have hb : Below w.heap.size w w1 := hb0.trans (hb1.mono (by omega))
    have hbz := hb.size
    have hhas := has_no C a ds w1 hG ha
    clear hG hb1 hS ha
    go_wp2_with fail
    refine hhas.mono ?_
    rintro E w2 ⟨rfl, hb2⟩
    have hbB := hb.trans (hb2.mono hbz)
    clear hhas hb2
    go_wp2_with fail
    go_ret
    rw [e.out]
    exact ⟨rfl, by first | exact hbB | exact hbB.drew⟩
  obtain ⟨a, rfl⟩ : ∃ n : Nat, a = (n : Int) := ⟨a.toNat, by omega⟩
  have ha : a < ds.length := by omega
  by_cases hbn : b < 0 ∨ (ds.length : Int) ≤ b
  · have e : Hid (domI true s a b = false) := by
      have : hasB ds a b = false := decide_eq_false (by omega)
      unfold Hid
      rw [HE.out, this, Bool.false_and]
    go_enter Tryz.func12, Tryz.ntmps12
    go_wp2_with fail
    refine hS.mono ?_
    rintro E w1 ⟨C, rfl, hC, hG, hb1⟩
    rw [HZ.out] at hC hb1
    have hb : Below w.heap.size w w1 := hb0.trans (hb1.mono (by omega))
    have hbz := hb.size
    have hhas := has_yes C a ds w1 hG ha
    have HG := Lib.hid hG
    clear hG hb1 hS
    go_wp2_with fail
    refine hhas.mono ?_
    rintro E w2 ⟨rfl, hb2⟩
    have hbB := hb.trans (hb2.mono hbz)
    have hzB := hbB.size
    have HG2 := Lib.hid (HG.out.kept (hb2.block C (by have := HG.out.lt; omega)))
    have hhas2 := has_no C b ds w2 HG2.out hbn
    clear hhas hb2 hbn
    go_wp2_with fail
    refine hhas2.mono ?_
    rintro E w3 ⟨rfl, hb3⟩
    have hbC := hbB.trans (hb3.mono hzB)
    clear hhas2 hb3
    go_wp2_with fail
    go_ret
    rw [e.out]
    exact ⟨rfl, by first | exact hbC | exact hbC.drew⟩
  obtain ⟨b, rfl⟩ : ∃ n : Nat, b = (n : Int) := ⟨b.toNat, by omega⟩
  have hbn : b < ds.length := by omega
  have e : Hid (domI true s a b = domAB (nextN ds) a b) := by
    have : hasB ds a b = true := decide_eq_true (by omega)
    unfold Hid
    rw [HE.out, this, Bool.true_and, Int.toNat_natCast, Int.toNat_natCast]
  go_enter Tryz.func12, Tryz.ntmps12
  go_wp2_with fail
  refine hS.mono ?_
  rintro E w1 ⟨C, rfl, hC, hG, hb1⟩
  rw [HZ.out] at hC hb1
  have hb : Below w.heap.size w w1 := hb0.trans (hb1.mono (by omega))
  have hbz := hb.size
  have hhas := has_yes C a ds w1 hG ha
  have HG := Lib.hid hG
  clear hG hb1 hS
  go_wp2_with fail
  refine hhas.mono ?_
  rintro E w2 ⟨rfl, hb2⟩
  have hbB := hb.trans (hb2.mono hbz)
  have hzB := hbB.size
  have HG2 := Lib.hid (HG.out.kept (hb2.block C (by have := HG.out.lt; omega)))
  have hhas2 := has_yes C b ds w2 HG2.out hbn
  clear hhas hb2
  go_wp2_with fail
  refine hhas2.mono ?_
  rintro E w3 ⟨rfl, hb3⟩
  have hbC := hbB.trans (hb3.mono hzB)
  have hzC := hbC.size
  have HG3 := Lib.hid (HG2.out.kept (hb3.block C (by have := HG2.out.lt; omega)))
  have hrw := reachedWithout_any C q 0 a ds w3 HD.out hq0 (by omega) ha HG3.out (tab_below HT.out hg hbC) (by omega)
  clear hhas2 hb3
  go_wp2_with fail
  refine hrw.mono ?_
  rintro E w4 ⟨y, rfl, hyl, hyw, hb4⟩
  have hbD := hbC.trans (hb4.mono hzC)
  have hzD := hbD.size
  have hbit := fun W => bitHas_any y b hyl (by omega) W
  have e2 := Lib.hid (domAB_flag (nx := nextN ds) (a := a) (b := b) (f := y.testBit b) (hyw b (by omega)))
  clear hrw hb4 hyw
  go_wp2_with fail
  refine (hbit _).mono ?_
  rintro E w6 ⟨rfl, rfl⟩
  clear hbit
  go_wp2_with fail
  go_ret
  rw [e.out, e2.out]
  exact ⟨rfl, by first | exact hbD | exact hbD.drew⟩

set_option maxRecDepth 100000 in
set_option maxHeartbeats 1000000 in
theorem implAlwaysReaches_any (ts : List Int) (s : Sts) (At As : Option Addr) (ct cs : Nat) (a b : Int) (w : World) (hT : IntsV w 0 w.heap.size ts At ct) (hR : RepV w 0 w.heap.size s As cs) (hTab : TabAt 0 Lib.deBruijn64tab w) (hg : 0 < w.heap.size) :
    Calls Tryz.prog 26 #[.agg #[.slice At ts.length ct, .slice As s.len cs], .int .i64 a, .int .i64 b] w fun E w' => E = .returned (.bool (rchI (validB ts s) s a b)) ∧ Below w.heap.size w w' := by
  have hb0 := (Below.refl w.heap.size w).alloc (Nat.le_refl _) (.cells #[.slice At ts.length ct, .slice As s.len cs] 26)
  have hT1 : IntsV (w.alloc (.cells #[.slice At ts.length ct, .slice As s.len cs] 26)) 0 (w.alloc (.cells #[.slice At ts.length ct, .slice As s.len cs] 26)).heap.size ts At ct := hT.below hb0 (by simp)
  have hR1 : RepV (w.alloc (.cells #[.slice At ts.length ct, .slice As s.len cs] 26)) 0 (w.alloc (.cells #[.slice At ts.length ct, .slice As s.len cs] 26)).heap.size s As cs := hR.below hb0 (by simp)
  have hz0 : (w.alloc (.cells #[.slice At ts.length ct, .slice As s.len cs] 26)).heap.size = w.heap.size + 1 := by simp
  have HZ := Lib.hid hz0
  clear hz0
  cases hv : validB ts s
  · have hS := graphOf_no ts s At As ct cs _ hv hT1 hR1
    have e : Hid (rchI false s a b = false) := by
      have : hasB (pointsB false s) a b = false := decide_eq_false (by simp [pointsB] <;> omega)
      simp [Hid, rchI, this]
    clear hT1 hR1 hv
    go_enter Tryz.func26, Tryz.ntmps26
    go_wp2_with fail
    refine hS.mono ?_
    rintro E w1 ⟨rfl, hb1⟩
    rw [HZ.out] at hb1
    have hb : Below w.heap.size w w1 := hb0.trans (hb1.mono (by omega))
    clear hb1 hS
    go_wp2_with fail
    go_ret
    rw [e.out]
    exact ⟨rfl, by first | exact hb | exact hb.drew⟩
  have hS := graphOf_yes ts s At As ct cs _ hv hT1 hR1
  have hD := progPts_ok s (valid_ok hv).2.1
  have hq0 := progPts_61 hv
  have HE : Hid (rchI true s a b = (hasB (progPts s) a b && rchAB (nextN (progPts s)) (progPts s).length a.toNat b.toNat)) := by simp [Hid, rchI, pointsB]
  generalize progPts s = ds at hS hD hq0 HE ⊢
  generalize s.npts = q at hD
  have HD := Lib.hid hD
  have HT := Lib.hid hTab
  clear hD hTab hT1 hR1 hv
  by_cases ha : a < 0 ∨ (ds.length : Int) ≤ a
  · have e : Hid (rchI true s a b = false) := by
      have : hasB ds a b = false := decide_eq_false (by omega)
      unfold Hid
      rw [HE.out, this, Bool.false_and]
    go_enter Tryz.func26, Tryz.ntmps26
    go_wp2_with fail
    refine hS.mono ?_
    rintro E w1 ⟨C, rfl, hC, hG, hb1⟩
    rw [HZ.out] at hC hb1
    have hb : Below w.heap.size w w1 := hb0.trans (hb1.mono (by omega))
    have hbz := hb.size
    have hhas := has_no C a ds w1 hG ha
    clear hG hb1 hS ha
    go_wp2_with fail
    refine hhas.mono ?_
    rintro E w2 ⟨rfl, hb2⟩
    have hbB := hb.trans (hb2.mono hbz)
    clear hhas hb2
    go_wp2_with fail
    go_ret
    rw [e.out]
    exact ⟨rfl, by first | exact hbB | exact hbB.drew⟩
  obtain ⟨a, rfl⟩ : ∃ n : Nat, a = (n : Int) := ⟨a.toNat, by omega⟩
  have ha : a < ds.length := by omega
  by_cases hbn : b < 0 ∨ (ds.length : Int) ≤ b
  · have e : Hid (rchI true s a b = false) := by
      have : hasB ds a b = false := decide_eq_false (by omega)
      unfold Hid
      rw [HE.out, this, Bool.false_and]
    go_enter Tryz.func26, Tryz.ntmps26
    go_wp2_with fail
    refine hS.mono ?_
    rintro E w1 ⟨C, rfl, hC, hG, hb1⟩
    rw [HZ.out] at hC hb1
    have hb : Below w.heap.size w w1 := hb0.trans (hb1.mono (by omega))
    have hbz := hb.size
    have hhas := has_yes C a ds w1 hG ha
    have HG := Lib.hid hG
    clear hG hb1 hS
    go_wp2_with fail
    refine hhas.mono ?_
    rintro E w2 ⟨rfl, hb2⟩
    have hbB := hb.trans (hb2.mono hbz)
    have hzB := hbB.size
    have HG2 := Lib.hid (HG.out.kept (hb2.block C (by have := HG.out.lt; omega)))
    have hhas2 := has_no C b ds w2 HG2.out hbn
    clear hhas hb2 hbn
    go_wp2_with fail
    refine hhas2.mono ?_
    rintro E w3 ⟨rfl, hb3⟩
    have hbC := hbB.trans (hb3.mono hzB)
    clear hhas2 hb3
    go_wp2_with fail
    go_ret
    rw [e.out]
    exact ⟨rfl, by first | exact hbC | exact hbC.drew⟩
  obtain ⟨b, rfl⟩ : ∃ n : Nat, b = (n : Int) := ⟨b.toNat, by omega⟩
  have hbn : b < ds.length := by omega
  have e : Hid (rchI true s a b = rchAB (nextN ds) ds.length a b) := by
    have : hasB ds a b = true := decide_eq_true (by omega)
    unfold Hid
    rw [HE.out, this, Bool.true_and, Int.toNat_natCast, Int.toNat_natCast]
  go_enter Tryz.func26, Tryz.ntmps26
  go_wp2_with fail
  refine hS.mono ?_
  rintro E w1 ⟨C, rfl, hC, hG, hb1⟩
  rw [HZ.out] at hC hb1
  have hb : Below w.heap.size w w1 := hb0.trans (hb1.mono (by omega))
  have hbz := hb.size
  have hhas := has_yes C a ds w1 hG ha
  have HG := Lib.hid hG
  clear hG hb1 hS
  go_wp2_with fail
  refine hhas.mono ?_
  rintro E w2 ⟨rfl, hb2⟩
  have hbB := hb.trans (hb2.mono hbz)
  have hzB := hbB.size
  have HG2 := Lib.hid (HG.out.kept (hb2.block C (by have := HG.out.lt; omega)))
  have hhas2 := has_yes C b ds w2 HG2.out hbn
  clear hhas hb2
  go_wp2_with fail
  refine hhas2.mono ?_
  rintro E w3 ⟨rfl, hb3⟩
  have hbC := hbB.trans (hb3.mono hzB)
  have hzC := hbC.size
  have HG3 := Lib.hid (HG2.out.kept (hb3.block C (by have := HG2.out.lt; omega)))
  have hrw := reachedWithout_any C q a b ds w3 HD.out hq0 (by omega) hbn HG3.out (tab_below HT.out hg hbC) (by omega)
  clear hhas2 hb3
  go_wp2_with fail
  refine hrw.mono ?_
  rintro E w4 ⟨y, rfl, hyl, hyw, hb4⟩
  have hbD := hbC.trans (hb4.mono hzC)
  have hzD := hbD.size
  have HG4 := Lib.hid (HG3.out.kept (hb4.block C (by have := HG3.out.lt; omega)))
  obtain ⟨m, hm⟩ : ∃ m, ds.length = m + 1 := ⟨ds.length - 1, by omega⟩
  have hmlt : m < ds.length := by omega
  have HM := Lib.hid hm
  have hla := last_any C m ds w4 HG4.out HM
  have hbit := fun W => bitHas_any y m hyl (by omega) W
  have e2 := Lib.hid (rchAB_flag (nx := nextN ds) (n := ds.length) (a := a) (b := b) (f := y.testBit m) (by rw [hm, Nat.add_sub_cancel]; exact hyw m (by omega)))
  clear hrw hb4 hyw hm
  go_wp2_with fail
  refine hla.mono ?_
  rintro E w5 ⟨rfl, hb5⟩
  have hbE := hbD.trans (hb5.mono hzD)
  clear hla hb5
  go_wp2_with fail
  refine (hbit _).mono ?_
  rintro E w6 ⟨rfl, rfl⟩
  clear hbit
  go_wp2_with fail
  go_ret
  rw [e.out, e2.out]
  exact ⟨rfl, by first | exact hbE | exact hbE.drew⟩

end Go.Proofs.YtfkhgdbnjcdlmaaGreatDoor
