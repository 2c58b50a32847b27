/-
  The program's ShortWay.
-/
import Derived.Test.YtlddoookojjleaaGreatDoorZShP
import Derived.Test.YtlddoookojjleaaGreatDoorZWay
import Derived.Test.YtlddoookojjleaaGreatDoorZGrX
namespace Go.Proofs.YtlddoookojjleaaGreatDoor
open Go.RowKit Go.Deep
set_option linter.unusedVariables false

set_option maxRecDepth 100000 in
set_option maxHeartbeats 1000000 in
theorem implShortWay_any (ts : List Int) (s : Sts) (At As : Option Addr) (ct cs : Nat) (a b : Int) (w : World) (hT : IntsV w 0 w.heap.size ts At ct) (hR : RepV w 0 w.heap.size s As cs) :
    Calls Tryz.prog 5 #[.agg #[.slice At ts.length ct, .slice As s.len cs], .int .i64 a, .int .i64 b] w fun E w' => ∃ v l r, E = .returned (.tuple #[v, .bool r]) ∧ RowI w' w.heap.size v l ∧ AnsSW ts s a b l r ∧ Below w.heap.size w w' := by
  have hb0 := (Below.refl w.heap.size w).alloc (Nat.le_refl _) (.cells #[.slice At ts.length ct, .slice As s.len cs] 26)
  have hT1 : IntsV (w.alloc (.cells #[.slice At ts.length ct, .slice As s.len cs] 26)) 0 (w.alloc (.cells #[.slice At ts.length ct, .slice As s.len cs] 26)).heap.size ts At ct := hT.below hb0 (by simp)
  have hR1 : RepV (w.alloc (.cells #[.slice At ts.length ct, .slice As s.len cs] 26)) 0 (w.alloc (.cells #[.slice At ts.length ct, .slice As s.len cs] 26)).heap.size s As cs := hR.below hb0 (by simp)
  have hz0 : (w.alloc (.cells #[.slice At ts.length ct, .slice As s.len cs] 26)).heap.size = w.heap.size + 1 := by simp
  have hrow : ∀ (W : World), Hid (RowI W w.heap.size (.slice none 0 0) []) := fun W => World.ownsRow_nil W w.heap.size 3 1
  have HZ := Lib.hid hz0
  clear hz0
  cases hv : validB ts s
  · have hS := graphOf_no ts s At As ct cs _ hv hT1 hR1
    have e : Hid (AnsSW ts s a b [] false) := .inr ⟨fun h => (by have h9 := h.1; rw [hv] at h9; cases h9), rfl, rfl⟩
    clear hT1 hR1 hv
    go_enter Tryz.func5, Tryz.ntmps5
    go_wp2_with fail
    refine hS.mono ?_
    rintro E w1 ⟨rfl, hb1⟩
    rw [HZ.out] at hb1
    have hb : Below w.heap.size w w1 := hb0.trans (hb1.mono (by omega))
    clear hb1 hS
    go_wp2_with fail
    go_ret2
    exact ⟨_, _, _, rfl, (hrow _).out, e.out, hb⟩
  have hS := graphOf_yes ts s At As ct cs _ hv hT1 hR1
  have HD := Lib.hid (valid_D hv)
  have HLE := Lib.hid (valid_61 hv)
  have HV := Lib.hid hv
  clear hT1 hR1 hv
  by_cases ha : a < 0 ∨ ((progPts s).length : Int) ≤ a
  · have e : Hid (AnsSW ts s a b [] false) := .inr ⟨fun h => (by have := h.2.1; have := h.2.2.1; omega), rfl, rfl⟩
    go_enter Tryz.func5, Tryz.ntmps5
    go_wp2_with fail
    refine hS.mono ?_
    rintro E w1 ⟨C, rfl, hC, hG, hb1⟩
    rw [HZ.out] at hC hb1
    have hb : Below w.heap.size w w1 := hb0.trans (hb1.mono (by omega))
    have hbz := hb.size
    have hhas := has_no C a (progPts s) w1 hG ha
    clear hG hb1 hS ha
    go_wp2_with fail
    refine hhas.mono ?_
    rintro E w2 ⟨rfl, hb2⟩
    have hbB := hb.trans (hb2.mono hbz)
    clear hhas hb2
    go_wp2_with fail
    go_ret2
    exact ⟨_, _, _, rfl, (hrow _).out, e.out, hbB⟩
  obtain ⟨a, rfl⟩ : ∃ n : Nat, a = (n : Int) := ⟨a.toNat, by omega⟩
  have ha : a < (progPts s).length := by omega
  by_cases hbn : b < 0 ∨ ((progPts s).length : Int) ≤ b
  · have e : Hid (AnsSW ts s a b [] false) := .inr ⟨fun h => (by have := h.2.2.2.1; have := h.2.2.2.2.1; omega), rfl, rfl⟩
    go_enter Tryz.func5, Tryz.ntmps5
    go_wp2_with fail
    refine hS.mono ?_
    rintro E w1 ⟨C, rfl, hC, hG, hb1⟩
    rw [HZ.out] at hC hb1
    have hb : Below w.heap.size w w1 := hb0.trans (hb1.mono (by omega))
    have hbz := hb.size
    have hhas := has_yes C a (progPts s) w1 hG ha
    have HG := Lib.hid hG
    clear hG hb1 hS
    go_wp2_with fail
    refine hhas.mono ?_
    rintro E w2 ⟨rfl, hb2⟩
    have hbB := hb.trans (hb2.mono hbz)
    have hzB := hbB.size
    have HG2 := Lib.hid (HG.out.kept (hb2.block C (by have := HG.out.lt; omega)))
    have hhas2 := has_no C b (progPts s) w2 HG2.out hbn
    clear hhas hb2 hbn
    go_wp2_with fail
    refine hhas2.mono ?_
    rintro E w3 ⟨rfl, hb3⟩
    have hbC := hbB.trans (hb3.mono hzB)
    clear hhas2 hb3
    go_wp2_with fail
    go_ret2
    exact ⟨_, _, _, rfl, (hrow _).out, e.out, hbC⟩
  obtain ⟨b, rfl⟩ : ∃ n : Nat, b = (n : Int) := ⟨b.toNat, by omega⟩
  have hbn : b < (progPts s).length := by omega
  have HSF := Lib.hid (nextN_self s a)
  go_enter Tryz.func5, Tryz.ntmps5
  go_wp2_with fail
  refine hS.mono ?_
  rintro E w1 ⟨C, rfl, hC, hG, hb1⟩
  rw [HZ.out] at hC hb1
  have hb : Below w.heap.size w w1 := hb0.trans (hb1.mono (by omega))
  have hbz := hb.size
  have hhas := has_yes C a (progPts s) w1 hG ha
  have HG := Lib.hid hG
  clear hG hb1 hS
  go_wp2_with fail
  refine hhas.mono ?_
  rintro E w2 ⟨rfl, hb2⟩
  have hbB := hb.trans (hb2.mono hbz)
  have hzB := hbB.size
  have HG2 := Lib.hid (HG.out.kept (hb2.block C (by have := HG.out.lt; omega)))
  have hhas2 := has_yes C b (progPts s) w2 HG2.out hbn
  clear hhas hb2
  go_wp2_with fail
  refine hhas2.mono ?_
  rintro E w3 ⟨rfl, hb3⟩
  have hbC := hbB.trans (hb3.mono hzB)
  have hzC := hbC.size
  have HG3 := Lib.hid (HG2.out.kept (hb3.block C (by have := HG2.out.lt; omega)))
  have hsr := search_any C s.npts a (progPts s) w3 HD.out HLE.out HSF.out ha HG3.out
  clear hhas2 hb3
  go_wp2_with fail
  refine hsr.mono ?_
  rintro E w4 ⟨S, rfl, hS4, hM, hb4⟩
  have hbD := hbC.trans (hb4.mono hzC)
  have hzD := hbD.size
  have hwy := way_any (nextN (progPts s)) a b S (progPts s).length 0 w4 HSF.out (fun a x hx => nextN_lt HD.out a x hx) HLE.out hbn hM
  clear hsr hb4 hM
  go_wp2_with fail
  refine hwy.mono ?_
  intro E w5 hp
  obtain ⟨v, l, r, rfl, hrw, hans, hb5⟩ := WayPost13.ans HV.out ha hbn hp
  have HRW := Lib.hid (hrw.mono hzD)
  have HAN := Lib.hid hans
  have hbE := hbD.trans (hb5.mono hzD)
  clear hwy hp hrw hans hb5
  go_wp2_with fail
  go_ret2
  exact ⟨v, l, r, rfl, HRW.out, HAN.out, hbE⟩

end Go.Proofs.YtlddoookojjleaaGreatDoor
