/-
  The program's LastDominator.
-/
import Derived.Test.YtfkhgdbnjcdlmaaGreatDoorZDofI
namespace Go.Proofs.YtfkhgdbnjcdlmaaGreatDoor
open Go.RowKit Go.Deep
set_option linter.unusedVariables false

/-- What LastDominator answers. -/
def lastOk (ok : Bool) (s : Sts) (a : Int) : Bool := ok && decide (0 < a ∧ a < ((progPts s).length : Int))

noncomputable def lastI (ok : Bool) (s : Sts) (a : Int) : Int := if lastOk ok s a then (parN (nextN (progPts s)) (progPts s).length a.toNat : Int) else 0

set_option maxRecDepth 100000 in
set_option maxHeartbeats 1000000 in
theorem implLastDominator_any (ts : List Int) (s : Sts) (At As : Option Addr) (ct cs : Nat) (a : Int) (w : World) (hT : IntsV w 0 w.heap.size ts At ct) (hR : RepV w 0 w.heap.size s As cs) (hTab : TabAt 0 Lib.deBruijn64tab w) (hg : 0 < w.heap.size) :
    Calls Tryz.prog 23 #[.agg #[.slice At ts.length ct, .slice As s.len cs], .int .i64 a] w fun E w' => E = .returned (.tuple #[.int .i64 (lastI (validB ts s) s a), .bool (lastOk (validB ts s) s a)]) ∧ Below w.heap.size w w' := by
  have hb0 := (Below.refl w.heap.size w).alloc (Nat.le_refl _) (.cells #[.slice At ts.length ct, .slice As s.len cs] 26)
  have hT1 : IntsV (w.alloc (.cells #[.slice At ts.length ct, .slice As s.len cs] 26)) 0 (w.alloc (.cells #[.slice At ts.length ct, .slice As s.len cs] 26)).heap.size ts At ct := hT.below hb0 (by simp)
  have hR1 : RepV (w.alloc (.cells #[.slice At ts.length ct, .slice As s.len cs] 26)) 0 (w.alloc (.cells #[.slice At ts.length ct, .slice As s.len cs] 26)).heap.size s As cs := hR.below hb0 (by simp)
  have hz0 : (w.alloc (.cells #[.slice At ts.length ct, .slice As s.len cs] 26)).heap.size = w.heap.size + 1 := by simp
  have HZ := Lib.hid hz0
  clear hz0
  cases hv : validB ts s
  · have hS := graphOf_no ts s At As ct cs _ hv hT1 hR1
    have e1 : Hid (lastOk false s a = false) := rfl
    have e2 : Hid (lastI false s a = 0) := by unfold Hid lastI; rw [e1.out]; rfl
    clear hT1 hR1 hv
    go_enter Tryz.func23, Tryz.ntmps23
    go_wp2_with fail
    refine hS.mono ?_
    rintro E w1 ⟨rfl, hb1⟩
    rw [HZ.out] at hb1
    have hb : Below w.heap.size w w1 := hb0.trans (hb1.mono (by omega))
    clear hb1 hS
    go_wp2_with fail
    go_ret2
    rw [e1.out, e2.out]
    exact ⟨rfl, by first | exact hb | exact hb.drew⟩
  have hS := graphOf_yes ts s At As ct cs _ hv hT1 hR1
  have hD := progPts_ok s (valid_ok hv).2.1
  have hq0 := progPts_61 hv
  have E1 : Hid (lastOk true s a = decide (0 < a ∧ a < ((progPts s).length : Int))) := by simp [Hid, lastOk]
  have E2 : Hid (lastI true s a = if decide (0 < a ∧ a < ((progPts s).length : Int)) then (parN (nextN (progPts s)) (progPts s).length a.toNat : Int) else 0) := by unfold Hid lastI; rw [E1.out]
  generalize progPts s = ds at hS hD hq0 E1 E2
  generalize s.npts = q at hD
  have HD := Lib.hid hD
  have HT := Lib.hid hTab
  clear hD hTab hT1 hR1 hv
  by_cases ha : a < 0 ∨ (ds.length : Int) ≤ a
  · have e1 : Hid (lastOk true s a = false) := by unfold Hid; rw [E1.out]; exact decide_eq_false (by omega)
    have e2 : Hid (lastI true s a = 0) := by unfold Hid; rw [E2.out, ← E1.out, e1.out]; rfl
    clear E1 E2
    go_enter Tryz.func23, Tryz.ntmps23
    go_wp2_with fail
    refine hS.mono ?_
    rintro E w1 ⟨C, rfl, hC, hG, hb1⟩
    rw [HZ.out] at hC hb1
    have hb : Below w.heap.size w w1 := hb0.trans (hb1.mono (by omega))
    have hbz := hb.size
    have hhas := has_no C a ds w1 hG ha
    clear hG hb1 hS ha
    go_wp2_with fail
    refine hhas.mono ?_
    rintro E w2 ⟨rfl, hb2⟩
    have hbB := hb.trans (hb2.mono hbz)
    clear hhas hb2
    go_wp2_with fail
    go_ret2
    rw [e1.out, e2.out]
    exact ⟨rfl, by first | exact hbB | exact hbB.drew⟩
  obtain ⟨a, rfl⟩ : ∃ n : Nat, a = (n : Int) := ⟨a.toNat, by omega⟩
  have ha : a < ds.length := by omega
  by_cases h0 : a = 0
  · subst h0
    have e1 : Hid (lastOk true s (0 : Nat) = false) := by unfold Hid; rw [E1.out]; exact decide_eq_false (by omega)
    have e2 : Hid (lastI true s (0 : Nat) = 0) := by unfold Hid; rw [E2.out, ← E1.out, e1.out]; rfl
    clear E1 E2
    go_enter Tryz.func23, Tryz.ntmps23
    go_wp2_with fail
    refine hS.mono ?_
    rintro E w1 ⟨C, rfl, hC, hG, hb1⟩
    rw [HZ.out] at hC hb1
    have hb : Below w.heap.size w w1 := hb0.trans (hb1.mono (by omega))
    have hbz := hb.size
    have hhas := has_yes C 0 ds w1 hG ha
    clear hG hb1 hS
    go_wp2_with fail
    refine hhas.mono ?_
    rintro E w2 ⟨rfl, hb2⟩
    have hbB := hb.trans (hb2.mono hbz)
    clear hhas hb2
    go_wp2_with fail
    go_ret2
    rw [e1.out, e2.out]
    exact ⟨rfl, by first | exact hbB | exact hbB.drew⟩
  have hd0 : decide ((a : Int) = 0) = false := decide_eq_false (by omega)
  have hd1 : ((a : Int) == 0) = false := by simp; omega
  have e1 : Hid (lastOk true s a = true) := by unfold Hid; rw [E1.out]; exact decide_eq_true (by omega)
  have e2 : Hid (lastI true s a = (parN (nextN ds) ds.length a : Int)) := by unfold Hid; rw [E2.out, ← E1.out, e1.out, Int.toNat_natCast]; rfl
  clear E1 E2
  go_enter Tryz.func23, Tryz.ntmps23
  go_wp2_with fail
  refine hS.mono ?_
  rintro E w1 ⟨C, rfl, hC, hG, hb1⟩
  rw [HZ.out] at hC hb1
  have hb : Below w.heap.size w w1 := hb0.trans (hb1.mono (by omega))
  have hbz := hb.size
  have hhas := has_yes C a ds w1 hG ha
  have HG := Lib.hid hG
  clear hG hb1 hS
  go_wp2_with fail
  refine hhas.mono ?_
  rintro E w2 ⟨rfl, hb2⟩
  have hbB := hb.trans (hb2.mono hbz)
  have hzB := hbB.size
  have HG2 := Lib.hid (HG.out.kept (hb2.block C (by have := HG.out.lt; omega)))
  have hdm := dominators_any C q ds w2 HD.out hq0 HG2.out (tab_below HT.out hg hbB) (by omega)
  clear hhas hb2
  go_wp2_with fail
  refine hdm.mono ?_
  rintro E w3 ⟨K, rfl, hK, hTr, hb3⟩
  have hbC := hbB.trans (hb3.mono hzB)
  have hc := hTr.cell ha
  generalize parN (nextN ds) ds.length a = p at hc e2
  clear hdm hTr hb3
  go_wp2_with fail
  go_ret2
  rw [e1.out, e2.out]
  exact ⟨rfl, by first | exact hbC | exact hbC.drew⟩

end Go.Proofs.YtfkhgdbnjcdlmaaGreatDoor
