/-
  StmtValid of the program and of its model.
-/
import Derived.Test.YtcaklhempmlpgaaImpl
import Derived.Test.YtcaklhempmlpgaaCopy0
namespace Go.Proofs.Ytcaklhempmlpgaa
open Go.RowKit Go.Deep
set_option linter.unusedVariables false

/-- A statement is valid for variables of some types. -/
def validS (ts : List Int) (op x y n : Int) (t e : Sts) : Bool := typesB ts && (stmtB ts 4 op x y n t e && decide (1 + t.size + e.size ≤ 30))

/-- One statement in a block of its own is a list. -/
theorem repV_one {w : World} {hi g : Nat} {op x y n : Int} {t e : Sts} {At Ae : Option Addr} {ct ce : Nat} {T : TypeId} (hg : w.heap[g]? = some (.cells #[.int .i64 op, .int .i64 x, .int .i64 y, .int .i64 n, .slice At t.len ct, .slice Ae e.len ce] T (0, 0))) (hgi : g < hi) (hRt : RepV w 0 hi t At ct) (hRe : RepV w 0 hi e Ae ce) :
    RepV w 0 hi (.cons op x y n t e .nil) (some ⟨g, 0, none⟩) 1 := by
  refine ⟨Nat.le_refl _, by unfold maxLen; omega, fun _ => ⟨_, rfl, Nat.zero_le _, hgi, ⟨?_, ?_, ?_, ?_⟩, ⟨At, ct, ?_, hRt.1, hRt.2.1, hRt.2.2⟩, ⟨Ae, ce, ?_, hRe.1, hRe.2.1, hRe.2.2⟩, trivial⟩⟩
  · exact (cell_of_block hg 0).trans rfl
  · rw [add_block]; exact (cell_of_block hg 1).trans rfl
  · rw [add_block]; exact (cell_of_block hg 2).trans rfl
  · rw [add_block]; exact (cell_of_block hg 3).trans rfl
  · rw [add_block]; exact (cell_of_block hg 4).trans rfl
  · rw [add_block]; exact (cell_of_block hg 5).trans rfl

theorem validB_one (ts : List Int) (op x y n : Int) (t e : Sts) : validB ts (.cons op x y n t e .nil) = validS ts op x y n t e := by
  unfold validB validS
  rw [bodyB_cons, bodyB_nil, Bool.and_true]
  rfl

set_option maxHeartbeats 1000000 in
theorem implStmtValid_any (ts : List Int) (A : Option Addr) (c : Nat) (op x y n : Int) (t e : Sts) (At Ae : Option Addr) (ct ce : Nat) (w : World) (hT : IntsV w 0 w.heap.size ts A c) (hRt : RepV w 0 w.heap.size t At ct) (hRe : RepV w 0 w.heap.size e Ae ce) :
    Calls Try.prog 18 #[.slice A ts.length c, .agg #[.int .i64 op, .int .i64 x, .int .i64 y, .int .i64 n, .slice At t.len ct, .slice Ae e.len ce]] w fun E w' => E = .returned (.bool (validS ts op x y n t e)) ∧ Below w.heap.size w w' := by
  have hb0 := ((Below.refl w.heap.size w).alloc (Nat.le_refl _) (.cells #[.int .i64 op, .int .i64 x, .int .i64 y, .int .i64 n, .slice At t.len ct, .slice Ae e.len ce] 41)).alloc (by simp) (.cells #[.int .i64 op, .int .i64 x, .int .i64 y, .int .i64 n, .slice At t.len ct, .slice Ae e.len ce] 41)
  have hg := heap_alloc_new (w.alloc (.cells #[.int .i64 op, .int .i64 x, .int .i64 y, .int .i64 n, .slice At t.len ct, .slice Ae e.len ce] 41)) (.cells #[.int .i64 op, .int .i64 x, .int .i64 y, .int .i64 n, .slice At t.len ct, .slice Ae e.len ce] 41)
  have hzz : (w.alloc (.cells #[.int .i64 op, .int .i64 x, .int .i64 y, .int .i64 n, .slice At t.len ct, .slice Ae e.len ce] 41)).heap.size = w.heap.size + 1 := by simp
  rw [hzz] at hg
  have hR := repV_one (hi := w.heap.size + 2) hg (by omega) (hRt.below hb0 (by omega)) (hRe.below hb0 (by omega))
  have HR := Lib.hid hR
  clear hg hzz hR
  go_enter Try.func18, Try.ntmps18
  go_wp2_with fail
  refine (programValid_any ts (.cons op x y n t e .nil) A (some ⟨w.heap.size + 1, 0, none⟩) c 1 _ (hT.below hb0 (by simp; omega)) (HR.out.keep (Nat.le_refl _) (by simp) fun _ _ _ => rfl)).mono ?_
  rintro E w1 ⟨he, hb1⟩
  rw [validB_one] at he
  subst he
  go_wp2_with fail
  go_ret
  exact ⟨rfl, hb0.trans (hb1.mono (by simp; omega))⟩

set_option maxHeartbeats 1000000 in
theorem specStmtValid_any (ts : List Int) (A : Option Addr) (c : Nat) (op x y n : Int) (t e : Sts) (At Ae : Option Addr) (ct ce : Nat) (w : World) (hsz : t.size + e.size ≤ 1048576) (hT : IntsV w 0 w.heap.size ts A c) (hRt : RepV w 0 w.heap.size t At ct) (hRe : RepV w 0 w.heap.size e Ae ce) :
    Calls Try.prog 19 #[.slice A ts.length c, .agg #[.int .i64 op, .int .i64 x, .int .i64 y, .int .i64 n, .slice At t.len ct, .slice Ae e.len ce]] w fun E w' => E = .returned (.bool (validS ts op x y n t e)) ∧ Below w.heap.size w w' := by
  have hb0 := (Below.refl w.heap.size w).alloc (Nat.le_refl _) (.cells #[.int .i64 op, .int .i64 x, .int .i64 y, .int .i64 n, .slice At t.len ct, .slice Ae e.len ce] 41)
  have hT1 : IntsV (w.alloc (.cells #[.int .i64 op, .int .i64 x, .int .i64 y, .int .i64 n, .slice At t.len ct, .slice Ae e.len ce] 41)) 0 (w.alloc (.cells #[.int .i64 op, .int .i64 x, .int .i64 y, .int .i64 n, .slice At t.len ct, .slice Ae e.len ce] 41)).heap.size ts A c := hT.below hb0 (by simp)
  have hRt1 : RepV (w.alloc (.cells #[.int .i64 op, .int .i64 x, .int .i64 y, .int .i64 n, .slice At t.len ct, .slice Ae e.len ce] 41)) 0 (w.alloc (.cells #[.int .i64 op, .int .i64 x, .int .i64 y, .int .i64 n, .slice At t.len ct, .slice Ae e.len ce] 41)).heap.size t At ct := hRt.below hb0 (by simp)
  have hRe1 : RepV (w.alloc (.cells #[.int .i64 op, .int .i64 x, .int .i64 y, .int .i64 n, .slice At t.len ct, .slice Ae e.len ce] 41)) 0 (w.alloc (.cells #[.int .i64 op, .int .i64 x, .int .i64 y, .int .i64 n, .slice At t.len ct, .slice Ae e.len ce] 41)).heap.size e Ae ce := hRe.below hb0 (by simp)
  have hB := heap_alloc_new w (.cells #[.int .i64 op, .int .i64 x, .int .i64 y, .int .i64 n, .slice At t.len ct, .slice Ae e.len ce] 41)
  have HB := Lib.hid hB
  clear hB
  by_cases h1 : typesB ts = true
  · have H1 := Lib.hid h1
    by_cases h2 : stmtB ts 4 op x y n t e = true
    · have H2 := Lib.hid h2
      have e0 : Hid (validS ts op x y n t e = decide (1 + t.size + e.size ≤ 30)) := by simp [Hid, validS, h1, h2]
      clear h1 h2
      go_enter Try.func19, Try.ntmps19
      go_wp2_with fail
      refine (l1Types_any ts A c _ hT1).mono ?_
      rintro E w1 ⟨he, rfl⟩
      rw [H1.out] at he
      subst he
      go_wp2_with fail
      refine (l1Stmt_any ts A c 4 op x y n t e At Ae ct ce _ hT1 (by omega) (by omega) (fun _ w' hb => l1Body_any (t.size + 1) ts A c t At ct 3 w' (by omega) (by omega) (by omega) (hT1.below hb hb.size) (hRt1.below hb hb.size)) (fun _ w' hb => l1Body_any (e.size + 1) ts A c e Ae ce 3 w' (by omega) (by omega) (by omega) (hT1.below hb hb.size) (hRe1.below hb hb.size))).mono ?_
      rintro E w1 ⟨he, hb1⟩
      rw [H2.out] at he
      subst he
      have hs1 := hb1.size
      have hb1' := (hb1.block w.heap.size (by simp)).trans HB.out
      have q0 : w1.cell? ⟨w.heap.size, 0, none⟩ = some (.int .i64 op) := (cell_of_block hb1' 0).trans rfl
      have q1 : w1.cell? ⟨w.heap.size, 1, none⟩ = some (.int .i64 x) := (cell_of_block hb1' 1).trans rfl
      have q2 : w1.cell? ⟨w.heap.size, 2, none⟩ = some (.int .i64 y) := (cell_of_block hb1' 2).trans rfl
      have q3 : w1.cell? ⟨w.heap.size, 3, none⟩ = some (.int .i64 n) := (cell_of_block hb1' 3).trans rfl
      have q4 : w1.cell? ⟨w.heap.size, 4, none⟩ = some (.slice At t.len ct) := (cell_of_block hb1' 4).trans rfl
      have q5 : w1.cell? ⟨w.heap.size, 5, none⟩ = some (.slice Ae e.len ce) := (cell_of_block hb1' 5).trans rfl
      have hb : Below w.heap.size w w1 := hb0.trans (hb1.mono (by simp))
      have hg := heap_alloc_new w1 (.cells #[.int .i64 op, .int .i64 x, .int .i64 y, .int .i64 n, .slice At t.len ct, .slice Ae e.len ce] 41)
      have hba := (Below.refl w1.heap.size w1).alloc (Nat.le_refl _) (.cells #[.int .i64 op, .int .i64 x, .int .i64 y, .int .i64 n, .slice At t.len ct, .slice Ae e.len ce] 41)
      have hR := repV_one (hi := w1.heap.size + 1) hg (by omega) ((hRt1.below hb1 hs1).below hba (by omega)) ((hRe1.below hb1 hs1).below hba (by omega))
      have HR := Lib.hid hR
      clear hb1' hb1 hT1 hRt1 hRe1 hg hR
      go_wp2_with fail
      refine (l1Count_any ((Sts.cons op x y n t e .nil).size + 1) (.cons op x y n t e .nil) (some ⟨w1.heap.size, 0, none⟩) 1 30 _ (by omega) (by simp only [Sts.size]; omega) (by omega) (by omega) (HR.out.keep (Nat.le_refl _) (by simp) fun _ _ _ => rfl)).mono ?_
      rintro E w2 ⟨r, rfl, hr0, hr1, hr2, hr3, rfl⟩
      have hr : Hid (decide (r ≤ 30) = decide (1 + t.size + e.size ≤ 30)) := by
        unfold Hid
        rw [decide_eq_decide]
        simp only [Sts.size, Nat.add_zero] at hr1 hr2 hr3
        constructor
        · intro h
          rcases Int.lt_or_le 30 ((1 + t.size + e.size : Nat) : Int) with h' | h'
          · have := hr3 h'; omega
          · omega
        · intro h
          have := hr2 (by omega)
          omega
      clear hr0 hr1 hr2 hr3
      go_wp2_with fail
      go_ret
      exact ⟨ret_bool (by rw [e0.out, ← hr.out]), hb.trans (hba.mono hb.size)⟩
    · have H2 : Hid (stmtB ts 4 op x y n t e = false) := by unfold Hid; simpa using h2
      have e0 : Hid (validS ts op x y n t e = false) := by simp [Hid, validS, h2]
      clear h1 h2
      go_enter Try.func19, Try.ntmps19
      go_wp2_with fail
      refine (l1Types_any ts A c _ hT1).mono ?_
      rintro E w1 ⟨he, rfl⟩
      rw [H1.out] at he
      subst he
      go_wp2_with fail
      refine (l1Stmt_any ts A c 4 op x y n t e At Ae ct ce _ hT1 (by omega) (by omega) (fun _ w' hb => l1Body_any (t.size + 1) ts A c t At ct 3 w' (by omega) (by omega) (by omega) (hT1.below hb hb.size) (hRt1.below hb hb.size)) (fun _ w' hb => l1Body_any (e.size + 1) ts A c e Ae ce 3 w' (by omega) (by omega) (by omega) (hT1.below hb hb.size) (hRe1.below hb hb.size))).mono ?_
      rintro E w1 ⟨he, hb1⟩
      rw [H2.out] at he
      subst he
      go_wp2_with fail
      go_ret
      exact ⟨ret_bool e0.out.symm, hb0.trans (hb1.mono (by simp))⟩
  · have H1 : Hid (typesB ts = false) := by unfold Hid; simpa using h1
    have e0 : Hid (validS ts op x y n t e = false) := by simp [Hid, validS, h1]
    clear h1
    go_enter Try.func19, Try.ntmps19
    go_wp2_with fail
    refine (l1Types_any ts A c _ hT1).mono ?_
    rintro E w1 ⟨he, rfl⟩
    rw [H1.out] at he
    subst he
    go_wp2_with fail
    go_ret
    exact ⟨ret_bool e0.out.symm, hb0⟩

end Go.Proofs.Ytcaklhempmlpgaa
