/-
  The program's ProgramValid and CountStmts.
-/
import Derived.Test.YtcpmodkplikmcaaScope
import Derived.Test.YtcpmodkplikmcaaSpecD
namespace Go.Proofs.Ytcpmodkplikmcaa
open Go.RowKit Go.Deep
set_option linter.unusedVariables false

theorem Chk.below {C B : Nat} {vs : Value} {w w' : World} {m : Int} (h : Chk C vs w w' m) (hB : B ≤ C) (hC : C < w.heap.size) : Below B w w' :=
  ⟨h.os, h.tape, h.output, h.size, fun k hk => h.block k (by omega) (by omega)⟩

set_option maxHeartbeats 1000000 in
theorem countValid_any (ts : List Int) (s : Sts) (At As : Option Addr) (ct cs : Nat) (w : World) (hT : IntsV w 0 w.heap.size ts At ct) (hR : RepV w 0 w.heap.size s As cs) :
    Calls Try.prog 74 #[.agg #[.slice At ts.length ct, .slice As s.len cs]] w fun E w' => E = .returned (.tuple #[.int .i64 (countI ts s), .bool (validB ts s)]) ∧ Below w.heap.size w w' := by
  have hb0 := (Below.refl w.heap.size w).alloc (Nat.le_refl _) (.cells #[.slice At ts.length ct, .slice As s.len cs] 29)
  have hT1 : IntsV (w.alloc (.cells #[.slice At ts.length ct, .slice As s.len cs] 29)) 0 (w.alloc (.cells #[.slice At ts.length ct, .slice As s.len cs] 29)).heap.size ts At ct := hT.below hb0 (by simp)
  have hc0 : (w.alloc (.cells #[.slice At ts.length ct, .slice As s.len cs] 29)).heap[w.heap.size]? = _ := heap_alloc_new w _
  have hz0 : (w.alloc (.cells #[.slice At ts.length ct, .slice As s.len cs] 29)).heap.size = w.heap.size + 1 := by simp
  have HC := Lib.hid hc0
  have HZ := Lib.hid hz0
  clear hc0 hz0
  by_cases hty : typesB ts = true
  · have HTY := Lib.hid hty
    clear hty
    go_enter Try.func74, Try.ntmps74
    go_wp2_with fail
    refine (scopeOf_yes ts At ct _ HTY.out hT1).mono ?_
    rintro E w1 ⟨A, c, rfl, hI, hb1⟩
    rw [HZ.out] at hI hb1
    have hs1 := hb1.size
    rw [HZ.out] at hs1
    have hb1' := (hb1.block w.heap.size (by omega)).trans HC.out
    have d1 : w1.cell? ⟨w.heap.size, 1, none⟩ = some (.slice As s.len cs) := (cell_of_block hb1' 1).trans rfl
    have hb : Below w.heap.size w w1 := hb0.trans (hb1.mono (by omega))
    have hR1 := hR.below hb (Nat.le_refl _)
    have d2 : ∀ o, (w1.alloc o).cell? ⟨w.heap.size, 1, none⟩ = some (.slice As s.len cs) := fun o => (World.cell?_alloc_lt _ _ _ (by simp; omega)).trans d1
    clear hb1' hb1 hT1 hT d1
    go_wp2_with fail
    have hCn : (w1.alloc (.cells #[.slice A ts.length c, .int .i64 0] 125)).heap[w1.heap.size]? = _ := heap_alloc_new w1 _
    have hba := (Below.refl w1.heap.size w1).alloc (Nat.le_refl _) (.cells #[.slice A ts.length c, .int .i64 0] 125)
    refine (listValid_any (s.size + 1) ts HTY.out A c w1.heap.size s As cs 0 0 _ (by omega) (by omega) (by omega) (by omega) (by omega) ((hI.below' hba (Nat.le_refl _)).keep (Nat.zero_le _) (Nat.le_refl _) fun _ _ _ => rfl) (hR1.below (hba.mono (by omega)) (by omega)) hCn).mono ?_
    rintro E w2 ⟨m', he, hk, hm'⟩
    have hbb : Below w.heap.size w w2 := hb.trans ((hba.mono (by omega)).trans (hk.below (by omega) (by simp)))
    by_cases hv : validB ts s = true
    · have hv2 := hv
      simp only [validB, Bool.and_eq_true, decide_eq_true_eq] at hv2
      have e1 : (bodyB ts (4 - 0) s && decide ((0 : Int) + s.size ≤ 30)) = true := by
        rw [Bool.and_eq_true, decide_eq_true_eq]
        exact ⟨hv2.2.1, by omega⟩
      rw [e1] at he
      subst he
      have hme := hm' hv2.2.1 (by omega)
      have k1 : w2.cell? ⟨w1.heap.size, 1, none⟩ = some (.int .i64 m') := (cell_of_block hk.cell 1).trans rfl
      have hfin : Hid (countI ts s = m') := by
        unfold Hid countI
        rw [if_pos hv]
        omega
      have HV := Lib.hid hv
      clear hv hv2 e1 hm' hme hk hba hCn d2
      go_wp2_with fail
      go_ret2
      exact ⟨by rw [hfin.out, HV.out]; rfl, hbb⟩
    · have hv' : validB ts s = false := by simpa using hv
      have e1 : (bodyB ts (4 - 0) s && decide ((0 : Int) + s.size ≤ 30)) = false := by
        have h2 := hv'
        simp only [validB, HTY.out, Bool.true_and] at h2
        rw [← h2]
        congr 1
        rw [decide_eq_decide]
        omega
      rw [e1] at he
      subst he
      have hfin : Hid (countI ts s = 0) := by
        unfold Hid countI
        rw [if_neg (by simpa using hv')]
      have HV := Lib.hid hv'
      clear hv hv' e1 hm' hk hba hCn d2
      go_wp2_with fail
      go_ret2
      exact ⟨by rw [hfin.out, HV.out]; rfl, hbb⟩
  · have hty' : typesB ts = false := by simpa using hty
    have HTY := Lib.hid hty'
    have hfin : Hid (countI ts s = 0) := by simp [Hid, countI, validB, hty']
    have HV : Hid (validB ts s = false) := by simp [Hid, validB, hty']
    clear hty hty'
    go_enter Try.func74, Try.ntmps74
    go_wp2_with fail
    refine (scopeOf_no ts At ct _ HTY.out hT1).mono ?_
    rintro E w1 ⟨rfl, hb1⟩
    have hs1 := hb1.size
    rw [HZ.out] at hb1 hs1
    have hb : Below w.heap.size w w1 := hb0.trans (hb1.mono (by omega))
    clear hb1 hT1 hT
    go_wp2_with fail
    go_ret2
    exact ⟨by rw [hfin.out, HV.out]; rfl, hb.alloc (by omega) _⟩

set_option maxHeartbeats 1000000 in
theorem programValid_any (ts : List Int) (s : Sts) (At As : Option Addr) (ct cs : Nat) (w : World) (hT : IntsV w 0 w.heap.size ts At ct) (hR : RepV w 0 w.heap.size s As cs) :
    Calls Try.prog 56 #[.agg #[.slice At ts.length ct, .slice As s.len cs]] w fun E w' => E = .returned (.bool (validB ts s)) ∧ Below w.heap.size w w' := by
  have hb0 := (Below.refl w.heap.size w).alloc (Nat.le_refl _) (.cells #[.slice At ts.length ct, .slice As s.len cs] 29)
  go_enter Try.func56, Try.ntmps56
  go_wp2_with fail
  refine (countValid_any ts s At As ct cs _ (hT.below hb0 (by simp)) (hR.below hb0 (by simp))).mono ?_
  rintro E w1 ⟨rfl, hb1⟩
  go_wp2_with fail
  go_ret
  exact ⟨rfl, hb0.trans (hb1.mono (by simp))⟩

end Go.Proofs.Ytcpmodkplikmcaa
