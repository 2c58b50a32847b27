/-
  The model's ProgramValid, CountStmts and StmtValid.
-/
import Derived.Test.YtcpmodkplikmcaaSpecC
namespace Go.Proofs.Ytcpmodkplikmcaa
open Go.RowKit Go.Deep

set_option maxHeartbeats 1000000 in
theorem specProgramValid_any (ts : List Int) (s : Sts) (At As : Option Addr) (ct cs : Nat) (w : World) (hsz : s.size ≤ 1048576) (hT : IntsV w 0 w.heap.size ts At ct) (hR : RepV w 0 w.heap.size s As cs) :
    Calls Try.prog 38 #[.agg #[.slice At ts.length ct, .slice As s.len cs]] w fun E w' => E = .returned (.bool (validB ts s)) ∧ Below w.heap.size w w' := by
  have hb0 := (Below.refl w.heap.size w).alloc (Nat.le_refl _) (.cells #[.slice At ts.length ct, .slice As s.len cs] 29)
  have hT0 := hT.below hb0 (hi' := w.heap.size + 1) (by omega)
  have hT1 : IntsV (w.alloc (.cells #[.slice At ts.length ct, .slice As s.len cs] 29)) 0 (w.alloc (.cells #[.slice At ts.length ct, .slice As s.len cs] 29)).heap.size ts At ct := hT.below hb0 (by simp)
  have hR1 : RepV (w.alloc (.cells #[.slice At ts.length ct, .slice As s.len cs] 29)) 0 (w.alloc (.cells #[.slice At ts.length ct, .slice As s.len cs] 29)).heap.size s As cs := hR.below hb0 (by simp)
  have hc0 : (w.alloc (.cells #[.slice At ts.length ct, .slice As s.len cs] 29)).heap[w.heap.size]? = _ := heap_alloc_new w _
  have HC := Lib.hid hc0
  clear hc0 hT0
  by_cases h1 : typesB ts = true
  · have H1 := Lib.hid h1
    by_cases h2 : bodyB ts 4 s = true
    · have H2 := Lib.hid h2
      have e0 : Hid (validB ts s = decide (s.size ≤ 30)) := by simp [Hid, validB, h1, h2]
      clear h1 h2
      go_enter Try.func38, Try.ntmps38
      go_wp2_with fail
      refine (l1Types_any ts At ct _ hT1).mono ?_
      rintro E w1 ⟨he, rfl⟩
      rw [H1.out] at he
      subst he
      go_wp2_with fail
      refine (l1Body_any (s.size + 1) ts At ct s As cs 4 _ (by omega) (by omega) (by omega) hT1 hR1).mono ?_
      rintro E w1 ⟨he, hb1⟩
      rw [H2.out] at he
      subst he
      have hb1' := hb1.block w.heap.size (by simp)
      rw [HC.out] at hb1'
      have d1 : w1.cell? ⟨w.heap.size, 1, none⟩ = some (.slice As s.len cs) := (cell_of_block hb1' 1).trans rfl
      have hs1 := hb1.size
      have hb : Below w.heap.size w w1 := hb0.trans (hb1.mono (by simp))
      have hR2 := hR1.below hb1 hs1
      clear hb1' hb1 hT1 hR1
      go_wp2_with fail
      refine (l1Count_any (s.size + 1) s As cs 30 _ (by omega) (by omega) (by omega) (by omega) hR2).mono ?_
      rintro E w2 ⟨r, rfl, hr0, hr1, hr2, hr3, rfl⟩
      have hr : Hid (decide (r ≤ 30) = decide (s.size ≤ 30)) := by
        unfold Hid
        rw [decide_eq_decide]
        constructor
        · intro h
          rcases Int.lt_or_le 30 (s.size : Int) with h' | h'
          · have := hr3 h'; omega
          · omega
        · intro h
          have := hr2 (by omega)
          omega
      clear hr0 hr1 hr2 hr3
      go_wp2_with fail
      go_ret
      exact ⟨ret_bool (by rw [e0.out, ← hr.out]), hb⟩
    · have H2 : Hid (bodyB ts 4 s = false) := by unfold Hid; simpa using h2
      have e0 : Hid (validB ts s = false) := by simp [Hid, validB, h2]
      clear h1 h2
      go_enter Try.func38, Try.ntmps38
      go_wp2_with fail
      refine (l1Types_any ts At ct _ hT1).mono ?_
      rintro E w1 ⟨he, rfl⟩
      rw [H1.out] at he
      subst he
      go_wp2_with fail
      refine (l1Body_any (s.size + 1) ts At ct s As cs 4 _ (by omega) (by omega) (by omega) hT1 hR1).mono ?_
      rintro E w1 ⟨he, hb1⟩
      rw [H2.out] at he
      subst he
      have hb : Below w.heap.size w w1 := hb0.trans (hb1.mono (by simp))
      clear hb1 hT1 hR1
      go_wp2_with fail
      go_ret
      exact ⟨ret_bool e0.out.symm, hb⟩
  · have H1 : Hid (typesB ts = false) := by unfold Hid; simpa using h1
    have e0 : Hid (validB ts s = false) := by simp [Hid, validB, h1]
    clear h1
    go_enter Try.func38, Try.ntmps38
    go_wp2_with fail
    refine (l1Types_any ts At ct _ hT1).mono ?_
    rintro E w1 ⟨he, rfl⟩
    rw [H1.out] at he
    subst he
    go_wp2_with fail
    go_ret
    exact ⟨ret_bool e0.out.symm, (Below.refl _ _).alloc (Nat.le_refl _) _⟩

theorem ret_int {k : IntKind} {a b : Int} (h : a = b) : Ending.returned (.int k a) = .returned (.int k b) := by rw [h]

end Go.Proofs.Ytcpmodkplikmcaa
