/-
  PointText of the program and of its model.
-/
import Derived.Test.YtgjecledchhlgaaTextD
import Derived.Test.YtgjecledchhlgaaTextG
import Derived.Test.YtgjecledchhlgaaKinds
namespace Go.Proofs.Ytgjecledchhlgaa
open Go.RowKit Go.Deep
set_option linter.unusedVariables false

/-- The text of a point. -/
def pointT (op x y n : Int) : List UInt8 :=
  if op = 11 then [101, 110, 100] else if op = 9 then [105, 102] else if op = 10 ∧ n = 1 then [103, 111] else if op = 10 then [108, 111, 111, 112]
  else if (1 ≤ op ∧ op ≤ 8) ∧ (0 ≤ x ∧ x ≤ 5) ∧ (0 ≤ y ∧ y ≤ 5) ∧ (0 ≤ n ∧ n ≤ 9) then stmtT op x y n [] [] else []

theorem isVar_any (v : Int) (w : World) : Calls Try.prog 52 #[.int .i64 v] w fun e w' => e = .returned (.bool (decide (0 ≤ v ∧ v ≤ 5))) ∧ w = w' := by
  by_cases h1 : 0 ≤ v
  · by_cases h2 : v ≤ 5
    · have e1 : decide (0 ≤ v ∧ v ≤ 5) = true := decide_eq_true ⟨h1, h2⟩
      rw [e1]
      have h3 : v < 6 := by omega
      go_enter Try.func52, Try.ntmps52
      go_wp2_with fail
      go_ret
      exact ⟨rfl, rfl⟩
    · have e1 : decide (0 ≤ v ∧ v ≤ 5) = false := decide_eq_false fun h => h2 h.2
      rw [e1]
      go_enter Try.func52, Try.ntmps52
      go_wp2_with fail
      go_ret
      exact ⟨ret_bool (decide_eq_false (by omega)), rfl⟩
  · have e1 : decide (0 ≤ v ∧ v ≤ 5) = false := decide_eq_false fun h => h1 h.1
    rw [e1]
    have h3 : v < 0 := by omega
    go_enter Try.func52, Try.ntmps52
    go_wp2_with fail
    go_ret
    exact ⟨rfl, rfl⟩

theorem nil_lists (w : World) : Calls Try.prog 82 #[.slice none Sts.nil.len 0] w (Txt w (listT .nil)) :=
  specList_any 1 .nil none 0 w (by simp [Sts.size]) (by simp [Sts.size]) trivial ⟨Nat.le_refl _, by simp [maxLen], fun h => absurd h (by simp [Sts.len])⟩

set_option maxRecDepth 100000 in
set_option maxHeartbeats 2000000 in
theorem specPointText_any (op x y n : Int) (A : Option Addr) (nx c : Nat) (w : World) :
    Calls Try.prog 13 #[.agg #[.int .i64 op, .int .i64 x, .int .i64 y, .int .i64 n, .slice A nx c]] w (Txt w (pointT op x y n)) := by
  by_cases e11 : op = 11
  · subst e11
    have e0 : Hid (pointT 11 x y n = [101, 110, 100]) := rfl
    go_enter Try.func13, Try.ntmps13
    go_wp2_with fail
    go_ret
    exact ⟨by rw [e0.out]; rfl, (Below.refl _ _).alloc (Nat.le_refl _) _⟩
  by_cases e9 : op = 9
  · subst e9
    have e0 : Hid (pointT 9 x y n = [105, 102]) := rfl
    go_enter Try.func13, Try.ntmps13
    go_wp2_with fail
    go_ret
    exact ⟨by rw [e0.out]; rfl, (Below.refl _ _).alloc (Nat.le_refl _) _⟩
  by_cases e10 : op = 10
  · subst e10
    by_cases en : n = 1
    · subst en
      have e0 : Hid (pointT 10 x y 1 = [103, 111]) := rfl
      go_enter Try.func13, Try.ntmps13
      go_wp2_with fail
      go_ret
      exact ⟨by rw [e0.out]; rfl, (Below.refl _ _).alloc (Nat.le_refl _) _⟩
    · have e0 : Hid (pointT 10 x y n = [108, 111, 111, 112]) := by simp [Hid, pointT, en]
      go_enter Try.func13, Try.ntmps13
      go_wp2_with fail
      go_ret
      exact ⟨by rw [e0.out]; rfl, (Below.refl _ _).alloc (Nat.le_refl _) _⟩
  by_cases hr : (1 ≤ op ∧ op ≤ 8) ∧ (0 ≤ x ∧ x ≤ 5) ∧ (0 ≤ y ∧ y ≤ 5) ∧ (0 ≤ n ∧ n ≤ 9)
  · have e0 : Hid (pointT op x y n = stmtT op x y n (listT .nil) (listT .nil)) := by
      unfold Hid pointT
      rw [if_neg e11, if_neg e9, if_neg (fun h => e10 h.1), if_neg e10, if_pos hr]
      rfl
    obtain ⟨⟨o1, o8⟩, ⟨x0, x5⟩, ⟨y0, y5⟩, ⟨n0, n9⟩⟩ := hr
    have x6 : x < 6 := by omega
    have y6 : y < 6 := by omega
    have o11 : op ≤ 11 := by omega
    have hb0 := (Below.refl w.heap.size w).alloc (Nat.le_refl _) (.cells #[.int .i64 op, .int .i64 x, .int .i64 y, .int .i64 n, .slice A nx c] 27)
    go_enter Try.func13, Try.ntmps13
    go_wp2_with fail
    have hb1 := Below.refl w.heap.size w
    refine (specText_any op x y n .nil .nil none none 0 0 _ (by simp [Sts.size]) ⟨by omega, by omega, fun _ => ⟨x0, x5, y0, y5, n0, n9⟩⟩ (fun w' _ => nil_lists w') (fun w' _ => nil_lists w')).mono ?_
    rintro E w1 ⟨rfl, hb2⟩
    go_wp2_with fail
    go_ret
    exact ⟨by rw [e0.out]; rfl, by first | exact hb0.trans (hb2.mono (by simp)) | exact (hb0.alloc (by simp) _).trans (hb2.mono (by simp; omega))⟩
  · have e0 : Hid (pointT op x y n = []) := by
      unfold Hid pointT
      rw [if_neg e11, if_neg e9, if_neg (fun h => e10 h.1), if_neg e10, if_neg hr]
    by_cases c1 : op < 1
    · clear hr
      go_enter Try.func13, Try.ntmps13
      go_wp2_with fail
      go_ret
      exact ⟨by rw [e0.out]; rfl, (Below.refl _ _).alloc (Nat.le_refl _) _⟩
    have c1' : 1 ≤ op := by omega
    by_cases c2 : 11 < op
    · clear hr
      go_enter Try.func13, Try.ntmps13
      go_wp2_with fail
      go_ret
      exact ⟨by rw [e0.out]; rfl, (Below.refl _ _).alloc (Nat.le_refl _) _⟩
    have c2' : op ≤ 11 := by omega
    by_cases c3 : x < 0
    · clear hr
      go_enter Try.func13, Try.ntmps13
      go_wp2_with fail
      go_ret
      exact ⟨by rw [e0.out]; rfl, (Below.refl _ _).alloc (Nat.le_refl _) _⟩
    have c3' : 0 ≤ x := by omega
    by_cases c4 : 6 ≤ x
    · clear hr
      go_enter Try.func13, Try.ntmps13
      go_wp2_with fail
      go_ret
      exact ⟨by rw [e0.out]; rfl, (Below.refl _ _).alloc (Nat.le_refl _) _⟩
    have c4' : x < 6 := by omega
    by_cases c5 : y < 0
    · clear hr
      go_enter Try.func13, Try.ntmps13
      go_wp2_with fail
      go_ret
      exact ⟨by rw [e0.out]; rfl, (Below.refl _ _).alloc (Nat.le_refl _) _⟩
    have c5' : 0 ≤ y := by omega
    by_cases c6 : 6 ≤ y
    · clear hr
      go_enter Try.func13, Try.ntmps13
      go_wp2_with fail
      go_ret
      exact ⟨by rw [e0.out]; rfl, (Below.refl _ _).alloc (Nat.le_refl _) _⟩
    have c6' : y < 6 := by omega
    by_cases c7 : n < 0
    · clear hr
      go_enter Try.func13, Try.ntmps13
      go_wp2_with fail
      go_ret
      exact ⟨by rw [e0.out]; rfl, (Below.refl _ _).alloc (Nat.le_refl _) _⟩
    have c7' : 0 ≤ n := by omega
    have c8 : 9 < n := by omega
    clear hr
    go_enter Try.func13, Try.ntmps13
    go_wp2_with fail
    go_ret
    exact ⟨by rw [e0.out]; rfl, (Below.refl _ _).alloc (Nat.le_refl _) _⟩

set_option maxRecDepth 100000 in
set_option maxHeartbeats 4000000 in
theorem implPointText_any (op x y n : Int) (A : Option Addr) (nx c : Nat) (w : World) :
    Calls Try.prog 15 #[.agg #[.int .i64 op, .int .i64 x, .int .i64 y, .int .i64 n, .slice A nx c]] w (Txt w (pointT op x y n)) := by
  have hb0 := (Below.refl w.heap.size w).alloc (Nat.le_refl _) (.cells #[.int .i64 op, .int .i64 x, .int .i64 y, .int .i64 n, .slice A nx c] 27)
  have hz0 : (w.alloc (.cells #[.int .i64 op, .int .i64 x, .int .i64 y, .int .i64 n, .slice A nx c] 27)).heap.size = w.heap.size + 1 := by simp
  have hc0 := heap_alloc_new w (.cells #[.int .i64 op, .int .i64 x, .int .i64 y, .int .i64 n, .slice A nx c] 27)
  have HC := Lib.hid hc0
  have HZ := Lib.hid hz0
  clear hc0 hz0
  by_cases e11 : op = 11
  · subst e11
    have e0 : Hid (pointT 11 x y n = [101, 110, 100]) := rfl
    go_enter Try.func15, Try.ntmps15
    go_wp2_with fail
    go_ret
    exact ⟨by rw [e0.out]; rfl, (Below.refl _ _).alloc (Nat.le_refl _) _⟩
  by_cases e9 : op = 9
  · subst e9
    have e0 : Hid (pointT 9 x y n = [105, 102]) := rfl
    go_enter Try.func15, Try.ntmps15
    go_wp2_with fail
    go_ret
    exact ⟨by rw [e0.out]; rfl, (Below.refl _ _).alloc (Nat.le_refl _) _⟩
  by_cases e10 : op = 10
  · subst e10
    by_cases en : n = 1
    · subst en
      have e0 : Hid (pointT 10 x y 1 = [103, 111]) := rfl
      go_enter Try.func15, Try.ntmps15
      go_wp2_with fail
      go_ret
      exact ⟨by rw [e0.out]; rfl, (Below.refl _ _).alloc (Nat.le_refl _) _⟩
    · have e0 : Hid (pointT 10 x y n = [108, 111, 111, 112]) := by simp [Hid, pointT, en]
      go_enter Try.func15, Try.ntmps15
      go_wp2_with fail
      go_ret
      exact ⟨by rw [e0.out]; rfl, (Below.refl _ _).alloc (Nat.le_refl _) _⟩
  by_cases e1 : op = 1
  · subst e1
    have e0 : Hid (pointT 1 x y n = if ((0 ≤ x ∧ x ≤ 5) ∧ (0 ≤ y ∧ y ≤ 5) ∧ (0 ≤ n ∧ n ≤ 9)) then stmtT 1 x y n [] [] else []) := by simp [Hid, pointT]
    have ta := textAt_1
    go_enter Try.func15, Try.ntmps15
    go_wp2_with fail
    refine (kindOf_1 x y n none none 0 0 0 0 _).mono ?_
    rintro E w1 ⟨rfl, hb1⟩
    rw [HZ.out] at hb1
    have hs1 := hb1.size
    rw [HZ.out] at hs1
    have hB1 := (hb1.block w.heap.size (by omega)).trans HC.out
    have c1 : w1.cell? ⟨w.heap.size, 1, none⟩ = some (.int .i64 x) := (cell_of_block hB1 1).trans rfl
    have c2 : w1.cell? ⟨w.heap.size, 2, none⟩ = some (.int .i64 y) := (cell_of_block hB1 2).trans rfl
    have c3 : w1.cell? ⟨w.heap.size, 3, none⟩ = some (.int .i64 n) := (cell_of_block hB1 3).trans rfl
    have hb : Below w.heap.size w w1 := hb0.trans (hb1.mono (by omega))
    clear hB1 hb1 hb0
    go_wp2_with fail
    refine (isVar_any x _).mono ?_
    rintro E w' ⟨he, rfl⟩
    by_cases hx : 0 ≤ x ∧ x ≤ 5
    · rw [decide_eq_true hx] at he
      subst he
      go_wp2_with fail
      refine (isVar_any y _).mono ?_
      rintro E w' ⟨he, rfl⟩
      by_cases hy : 0 ≤ y ∧ y ≤ 5
      · rw [decide_eq_true hy] at he
        subst he
        go_wp2_with fail
        refine (isNumber_any n _).mono ?_
        rintro E w' ⟨he, rfl⟩
        by_cases hn : 0 ≤ n ∧ n ≤ 9
        · rw [decide_eq_true hn] at he
          subst he
          have e1 : Hid (pointT 1 x y n = stmtT 1 x y n [] []) := by
            unfold Hid
            rw [e0.out, if_pos ⟨hx, hy, hn⟩]
          go_wp2_with fail
          refine (text_1 x n w1 hx hn).mono ?_
          rintro E w2 ⟨rfl, hb2⟩
          go_wp2_with fail
          go_ret
          exact ⟨by rw [e1.out]; rfl, hb.trans (hb2.mono hb.size)⟩
        · rw [decide_eq_false hn] at he
          subst he
          have e1 : Hid (pointT 1 x y n = []) := by
            unfold Hid
            rw [e0.out, if_neg (fun h => hn h.2.2)]
          go_wp2_with fail
          go_ret
          exact ⟨by rw [e1.out]; rfl, hb⟩
      · rw [decide_eq_false hy] at he
        subst he
        have e1 : Hid (pointT 1 x y n = []) := by
          unfold Hid
          rw [e0.out, if_neg (fun h => hy h.2.1)]
        go_wp2_with fail
        go_ret
        exact ⟨by rw [e1.out]; rfl, hb⟩
    · rw [decide_eq_false hx] at he
      subst he
      have e1 : Hid (pointT 1 x y n = []) := by
        unfold Hid
        rw [e0.out, if_neg (fun h => hx h.1)]
      go_wp2_with fail
      go_ret
      exact ⟨by rw [e1.out]; rfl, hb⟩
  by_cases e2 : op = 2
  · subst e2
    have e0 : Hid (pointT 2 x y n = if ((0 ≤ x ∧ x ≤ 5) ∧ (0 ≤ y ∧ y ≤ 5) ∧ (0 ≤ n ∧ n ≤ 9)) then stmtT 2 x y n [] [] else []) := by simp [Hid, pointT]
    have ta := textAt_2
    go_enter Try.func15, Try.ntmps15
    go_wp2_with fail
    refine (kindOf_2 x y n none none 0 0 0 0 _).mono ?_
    rintro E w1 ⟨rfl, hb1⟩
    rw [HZ.out] at hb1
    have hs1 := hb1.size
    rw [HZ.out] at hs1
    have hB1 := (hb1.block w.heap.size (by omega)).trans HC.out
    have c1 : w1.cell? ⟨w.heap.size, 1, none⟩ = some (.int .i64 x) := (cell_of_block hB1 1).trans rfl
    have c2 : w1.cell? ⟨w.heap.size, 2, none⟩ = some (.int .i64 y) := (cell_of_block hB1 2).trans rfl
    have c3 : w1.cell? ⟨w.heap.size, 3, none⟩ = some (.int .i64 n) := (cell_of_block hB1 3).trans rfl
    have hb : Below w.heap.size w w1 := hb0.trans (hb1.mono (by omega))
    clear hB1 hb1 hb0
    go_wp2_with fail
    refine (isVar_any x _).mono ?_
    rintro E w' ⟨he, rfl⟩
    by_cases hx : 0 ≤ x ∧ x ≤ 5
    · rw [decide_eq_true hx] at he
      subst he
      go_wp2_with fail
      refine (isVar_any y _).mono ?_
      rintro E w' ⟨he, rfl⟩
      by_cases hy : 0 ≤ y ∧ y ≤ 5
      · rw [decide_eq_true hy] at he
        subst he
        go_wp2_with fail
        refine (isNumber_any n _).mono ?_
        rintro E w' ⟨he, rfl⟩
        by_cases hn : 0 ≤ n ∧ n ≤ 9
        · rw [decide_eq_true hn] at he
          subst he
          have e1 : Hid (pointT 2 x y n = stmtT 2 x y n [] []) := by
            unfold Hid
            rw [e0.out, if_pos ⟨hx, hy, hn⟩]
          go_wp2_with fail
          refine (text_2 x n w1 hx hn).mono ?_
          rintro E w2 ⟨rfl, hb2⟩
          go_wp2_with fail
          go_ret
          exact ⟨by rw [e1.out]; rfl, hb.trans (hb2.mono hb.size)⟩
        · rw [decide_eq_false hn] at he
          subst he
          have e1 : Hid (pointT 2 x y n = []) := by
            unfold Hid
            rw [e0.out, if_neg (fun h => hn h.2.2)]
          go_wp2_with fail
          go_ret
          exact ⟨by rw [e1.out]; rfl, hb⟩
      · rw [decide_eq_false hy] at he
        subst he
        have e1 : Hid (pointT 2 x y n = []) := by
          unfold Hid
          rw [e0.out, if_neg (fun h => hy h.2.1)]
        go_wp2_with fail
        go_ret
        exact ⟨by rw [e1.out]; rfl, hb⟩
    · rw [decide_eq_false hx] at he
      subst he
      have e1 : Hid (pointT 2 x y n = []) := by
        unfold Hid
        rw [e0.out, if_neg (fun h => hx h.1)]
      go_wp2_with fail
      go_ret
      exact ⟨by rw [e1.out]; rfl, hb⟩
  by_cases e3 : op = 3
  · subst e3
    have e0 : Hid (pointT 3 x y n = if ((0 ≤ x ∧ x ≤ 5) ∧ (0 ≤ y ∧ y ≤ 5) ∧ (0 ≤ n ∧ n ≤ 9)) then stmtT 3 x y n [] [] else []) := by simp [Hid, pointT]
    have ta := textAt_3
    go_enter Try.func15, Try.ntmps15
    go_wp2_with fail
    refine (kindOf_3 x y n none none 0 0 0 0 _).mono ?_
    rintro E w1 ⟨rfl, hb1⟩
    rw [HZ.out] at hb1
    have hs1 := hb1.size
    rw [HZ.out] at hs1
    have hB1 := (hb1.block w.heap.size (by omega)).trans HC.out
    have c1 : w1.cell? ⟨w.heap.size, 1, none⟩ = some (.int .i64 x) := (cell_of_block hB1 1).trans rfl
    have c2 : w1.cell? ⟨w.heap.size, 2, none⟩ = some (.int .i64 y) := (cell_of_block hB1 2).trans rfl
    have c3 : w1.cell? ⟨w.heap.size, 3, none⟩ = some (.int .i64 n) := (cell_of_block hB1 3).trans rfl
    have hb : Below w.heap.size w w1 := hb0.trans (hb1.mono (by omega))
    clear hB1 hb1 hb0
    go_wp2_with fail
    refine (isVar_any x _).mono ?_
    rintro E w' ⟨he, rfl⟩
    by_cases hx : 0 ≤ x ∧ x ≤ 5
    · rw [decide_eq_true hx] at he
      subst he
      go_wp2_with fail
      refine (isVar_any y _).mono ?_
      rintro E w' ⟨he, rfl⟩
      by_cases hy : 0 ≤ y ∧ y ≤ 5
      · rw [decide_eq_true hy] at he
        subst he
        go_wp2_with fail
        refine (isNumber_any n _).mono ?_
        rintro E w' ⟨he, rfl⟩
        by_cases hn : 0 ≤ n ∧ n ≤ 9
        · rw [decide_eq_true hn] at he
          subst he
          have e1 : Hid (pointT 3 x y n = stmtT 3 x y n [] []) := by
            unfold Hid
            rw [e0.out, if_pos ⟨hx, hy, hn⟩]
          go_wp2_with fail
          refine (text_3 x y w1 hx hy).mono ?_
          rintro E w2 ⟨rfl, hb2⟩
          go_wp2_with fail
          go_ret
          exact ⟨by rw [e1.out]; rfl, hb.trans (hb2.mono hb.size)⟩
        · rw [decide_eq_false hn] at he
          subst he
          have e1 : Hid (pointT 3 x y n = []) := by
            unfold Hid
            rw [e0.out, if_neg (fun h => hn h.2.2)]
          go_wp2_with fail
          go_ret
          exact ⟨by rw [e1.out]; rfl, hb⟩
      · rw [decide_eq_false hy] at he
        subst he
        have e1 : Hid (pointT 3 x y n = []) := by
          unfold Hid
          rw [e0.out, if_neg (fun h => hy h.2.1)]
        go_wp2_with fail
        go_ret
        exact ⟨by rw [e1.out]; rfl, hb⟩
    · rw [decide_eq_false hx] at he
      subst he
      have e1 : Hid (pointT 3 x y n = []) := by
        unfold Hid
        rw [e0.out, if_neg (fun h => hx h.1)]
      go_wp2_with fail
      go_ret
      exact ⟨by rw [e1.out]; rfl, hb⟩
  by_cases e4 : op = 4
  · subst e4
    have e0 : Hid (pointT 4 x y n = if ((0 ≤ x ∧ x ≤ 5) ∧ (0 ≤ y ∧ y ≤ 5) ∧ (0 ≤ n ∧ n ≤ 9)) then stmtT 4 x y n [] [] else []) := by simp [Hid, pointT]
    have ta := textAt_4
    go_enter Try.func15, Try.ntmps15
    go_wp2_with fail
    refine (kindOf_4 x y n none none 0 0 0 0 _).mono ?_
    rintro E w1 ⟨rfl, hb1⟩
    rw [HZ.out] at hb1
    have hs1 := hb1.size
    rw [HZ.out] at hs1
    have hB1 := (hb1.block w.heap.size (by omega)).trans HC.out
    have c1 : w1.cell? ⟨w.heap.size, 1, none⟩ = some (.int .i64 x) := (cell_of_block hB1 1).trans rfl
    have c2 : w1.cell? ⟨w.heap.size, 2, none⟩ = some (.int .i64 y) := (cell_of_block hB1 2).trans rfl
    have c3 : w1.cell? ⟨w.heap.size, 3, none⟩ = some (.int .i64 n) := (cell_of_block hB1 3).trans rfl
    have hb : Below w.heap.size w w1 := hb0.trans (hb1.mono (by omega))
    clear hB1 hb1 hb0
    go_wp2_with fail
    refine (isVar_any x _).mono ?_
    rintro E w' ⟨he, rfl⟩
    by_cases hx : 0 ≤ x ∧ x ≤ 5
    · rw [decide_eq_true hx] at he
      subst he
      go_wp2_with fail
      refine (isVar_any y _).mono ?_
      rintro E w' ⟨he, rfl⟩
      by_cases hy : 0 ≤ y ∧ y ≤ 5
      · rw [decide_eq_true hy] at he
        subst he
        go_wp2_with fail
        refine (isNumber_any n _).mono ?_
        rintro E w' ⟨he, rfl⟩
        by_cases hn : 0 ≤ n ∧ n ≤ 9
        · rw [decide_eq_true hn] at he
          subst he
          have e1 : Hid (pointT 4 x y n = stmtT 4 x y n [] []) := by
            unfold Hid
            rw [e0.out, if_pos ⟨hx, hy, hn⟩]
          go_wp2_with fail
          refine (text_4 x y w1 hx hy).mono ?_
          rintro E w2 ⟨rfl, hb2⟩
          go_wp2_with fail
          go_ret
          exact ⟨by rw [e1.out]; rfl, hb.trans (hb2.mono hb.size)⟩
        · rw [decide_eq_false hn] at he
          subst he
          have e1 : Hid (pointT 4 x y n = []) := by
            unfold Hid
            rw [e0.out, if_neg (fun h => hn h.2.2)]
          go_wp2_with fail
          go_ret
          exact ⟨by rw [e1.out]; rfl, hb⟩
      · rw [decide_eq_false hy] at he
        subst he
        have e1 : Hid (pointT 4 x y n = []) := by
          unfold Hid
          rw [e0.out, if_neg (fun h => hy h.2.1)]
        go_wp2_with fail
        go_ret
        exact ⟨by rw [e1.out]; rfl, hb⟩
    · rw [decide_eq_false hx] at he
      subst he
      have e1 : Hid (pointT 4 x y n = []) := by
        unfold Hid
        rw [e0.out, if_neg (fun h => hx h.1)]
      go_wp2_with fail
      go_ret
      exact ⟨by rw [e1.out]; rfl, hb⟩
  by_cases e5 : op = 5
  · subst e5
    have e0 : Hid (pointT 5 x y n = if ((0 ≤ x ∧ x ≤ 5) ∧ (0 ≤ y ∧ y ≤ 5) ∧ (0 ≤ n ∧ n ≤ 9)) then stmtT 5 x y n [] [] else []) := by simp [Hid, pointT]
    have ta := textAt_5
    go_enter Try.func15, Try.ntmps15
    go_wp2_with fail
    refine (kindOf_5 x y n none none 0 0 0 0 _).mono ?_
    rintro E w1 ⟨rfl, hb1⟩
    rw [HZ.out] at hb1
    have hs1 := hb1.size
    rw [HZ.out] at hs1
    have hB1 := (hb1.block w.heap.size (by omega)).trans HC.out
    have c1 : w1.cell? ⟨w.heap.size, 1, none⟩ = some (.int .i64 x) := (cell_of_block hB1 1).trans rfl
    have c2 : w1.cell? ⟨w.heap.size, 2, none⟩ = some (.int .i64 y) := (cell_of_block hB1 2).trans rfl
    have c3 : w1.cell? ⟨w.heap.size, 3, none⟩ = some (.int .i64 n) := (cell_of_block hB1 3).trans rfl
    have hb : Below w.heap.size w w1 := hb0.trans (hb1.mono (by omega))
    clear hB1 hb1 hb0
    go_wp2_with fail
    refine (isVar_any x _).mono ?_
    rintro E w' ⟨he, rfl⟩
    by_cases hx : 0 ≤ x ∧ x ≤ 5
    · rw [decide_eq_true hx] at he
      subst he
      go_wp2_with fail
      refine (isVar_any y _).mono ?_
      rintro E w' ⟨he, rfl⟩
      by_cases hy : 0 ≤ y ∧ y ≤ 5
      · rw [decide_eq_true hy] at he
        subst he
        go_wp2_with fail
        refine (isNumber_any n _).mono ?_
        rintro E w' ⟨he, rfl⟩
        by_cases hn : 0 ≤ n ∧ n ≤ 9
        · rw [decide_eq_true hn] at he
          subst he
          have e1 : Hid (pointT 5 x y n = stmtT 5 x y n [] []) := by
            unfold Hid
            rw [e0.out, if_pos ⟨hx, hy, hn⟩]
          go_wp2_with fail
          refine (text_5 x y w1 hx hy).mono ?_
          rintro E w2 ⟨rfl, hb2⟩
          go_wp2_with fail
          go_ret
          exact ⟨by rw [e1.out]; rfl, hb.trans (hb2.mono hb.size)⟩
        · rw [decide_eq_false hn] at he
          subst he
          have e1 : Hid (pointT 5 x y n = []) := by
            unfold Hid
            rw [e0.out, if_neg (fun h => hn h.2.2)]
          go_wp2_with fail
          go_ret
          exact ⟨by rw [e1.out]; rfl, hb⟩
      · rw [decide_eq_false hy] at he
        subst he
        have e1 : Hid (pointT 5 x y n = []) := by
          unfold Hid
          rw [e0.out, if_neg (fun h => hy h.2.1)]
        go_wp2_with fail
        go_ret
        exact ⟨by rw [e1.out]; rfl, hb⟩
    · rw [decide_eq_false hx] at he
      subst he
      have e1 : Hid (pointT 5 x y n = []) := by
        unfold Hid
        rw [e0.out, if_neg (fun h => hx h.1)]
      go_wp2_with fail
      go_ret
      exact ⟨by rw [e1.out]; rfl, hb⟩
  by_cases e6 : op = 6
  · subst e6
    have e0 : Hid (pointT 6 x y n = if ((0 ≤ x ∧ x ≤ 5) ∧ (0 ≤ y ∧ y ≤ 5) ∧ (0 ≤ n ∧ n ≤ 9)) then stmtT 6 x y n [] [] else []) := by simp [Hid, pointT]
    have ta := textAt_6
    go_enter Try.func15, Try.ntmps15
    go_wp2_with fail
    refine (kindOf_6 x y n none none 0 0 0 0 _).mono ?_
    rintro E w1 ⟨rfl, hb1⟩
    rw [HZ.out] at hb1
    have hs1 := hb1.size
    rw [HZ.out] at hs1
    have hB1 := (hb1.block w.heap.size (by omega)).trans HC.out
    have c1 : w1.cell? ⟨w.heap.size, 1, none⟩ = some (.int .i64 x) := (cell_of_block hB1 1).trans rfl
    have c2 : w1.cell? ⟨w.heap.size, 2, none⟩ = some (.int .i64 y) := (cell_of_block hB1 2).trans rfl
    have c3 : w1.cell? ⟨w.heap.size, 3, none⟩ = some (.int .i64 n) := (cell_of_block hB1 3).trans rfl
    have hb : Below w.heap.size w w1 := hb0.trans (hb1.mono (by omega))
    clear hB1 hb1 hb0
    go_wp2_with fail
    refine (isVar_any x _).mono ?_
    rintro E w' ⟨he, rfl⟩
    by_cases hx : 0 ≤ x ∧ x ≤ 5
    · rw [decide_eq_true hx] at he
      subst he
      go_wp2_with fail
      refine (isVar_any y _).mono ?_
      rintro E w' ⟨he, rfl⟩
      by_cases hy : 0 ≤ y ∧ y ≤ 5
      · rw [decide_eq_true hy] at he
        subst he
        go_wp2_with fail
        refine (isNumber_any n _).mono ?_
        rintro E w' ⟨he, rfl⟩
        by_cases hn : 0 ≤ n ∧ n ≤ 9
        · rw [decide_eq_true hn] at he
          subst he
          have e1 : Hid (pointT 6 x y n = stmtT 6 x y n [] []) := by
            unfold Hid
            rw [e0.out, if_pos ⟨hx, hy, hn⟩]
          go_wp2_with fail
          refine (text_6 x y w1 hx hy).mono ?_
          rintro E w2 ⟨rfl, hb2⟩
          go_wp2_with fail
          go_ret
          exact ⟨by rw [e1.out]; rfl, hb.trans (hb2.mono hb.size)⟩
        · rw [decide_eq_false hn] at he
          subst he
          have e1 : Hid (pointT 6 x y n = []) := by
            unfold Hid
            rw [e0.out, if_neg (fun h => hn h.2.2)]
          go_wp2_with fail
          go_ret
          exact ⟨by rw [e1.out]; rfl, hb⟩
      · rw [decide_eq_false hy] at he
        subst he
        have e1 : Hid (pointT 6 x y n = []) := by
          unfold Hid
          rw [e0.out, if_neg (fun h => hy h.2.1)]
        go_wp2_with fail
        go_ret
        exact ⟨by rw [e1.out]; rfl, hb⟩
    · rw [decide_eq_false hx] at he
      subst he
      have e1 : Hid (pointT 6 x y n = []) := by
        unfold Hid
        rw [e0.out, if_neg (fun h => hx h.1)]
      go_wp2_with fail
      go_ret
      exact ⟨by rw [e1.out]; rfl, hb⟩
  by_cases e7 : op = 7
  · subst e7
    have e0 : Hid (pointT 7 x y n = if ((0 ≤ x ∧ x ≤ 5) ∧ (0 ≤ y ∧ y ≤ 5) ∧ (0 ≤ n ∧ n ≤ 9)) then stmtT 7 x y n [] [] else []) := by simp [Hid, pointT]
    have ta := textAt_7
    go_enter Try.func15, Try.ntmps15
    go_wp2_with fail
    refine (kindOf_7 x y n none none 0 0 0 0 _).mono ?_
    rintro E w1 ⟨rfl, hb1⟩
    rw [HZ.out] at hb1
    have hs1 := hb1.size
    rw [HZ.out] at hs1
    have hB1 := (hb1.block w.heap.size (by omega)).trans HC.out
    have c1 : w1.cell? ⟨w.heap.size, 1, none⟩ = some (.int .i64 x) := (cell_of_block hB1 1).trans rfl
    have c2 : w1.cell? ⟨w.heap.size, 2, none⟩ = some (.int .i64 y) := (cell_of_block hB1 2).trans rfl
    have c3 : w1.cell? ⟨w.heap.size, 3, none⟩ = some (.int .i64 n) := (cell_of_block hB1 3).trans rfl
    have hb : Below w.heap.size w w1 := hb0.trans (hb1.mono (by omega))
    clear hB1 hb1 hb0
    go_wp2_with fail
    refine (isVar_any x _).mono ?_
    rintro E w' ⟨he, rfl⟩
    by_cases hx : 0 ≤ x ∧ x ≤ 5
    · rw [decide_eq_true hx] at he
      subst he
      go_wp2_with fail
      refine (isVar_any y _).mono ?_
      rintro E w' ⟨he, rfl⟩
      by_cases hy : 0 ≤ y ∧ y ≤ 5
      · rw [decide_eq_true hy] at he
        subst he
        go_wp2_with fail
        refine (isNumber_any n _).mono ?_
        rintro E w' ⟨he, rfl⟩
        by_cases hn : 0 ≤ n ∧ n ≤ 9
        · rw [decide_eq_true hn] at he
          subst he
          have e1 : Hid (pointT 7 x y n = stmtT 7 x y n [] []) := by
            unfold Hid
            rw [e0.out, if_pos ⟨hx, hy, hn⟩]
          go_wp2_with fail
          refine (text_7 x y w1 hx hy).mono ?_
          rintro E w2 ⟨rfl, hb2⟩
          go_wp2_with fail
          go_ret
          exact ⟨by rw [e1.out]; rfl, hb.trans (hb2.mono hb.size)⟩
        · rw [decide_eq_false hn] at he
          subst he
          have e1 : Hid (pointT 7 x y n = []) := by
            unfold Hid
            rw [e0.out, if_neg (fun h => hn h.2.2)]
          go_wp2_with fail
          go_ret
          exact ⟨by rw [e1.out]; rfl, hb⟩
      · rw [decide_eq_false hy] at he
        subst he
        have e1 : Hid (pointT 7 x y n = []) := by
          unfold Hid
          rw [e0.out, if_neg (fun h => hy h.2.1)]
        go_wp2_with fail
        go_ret
        exact ⟨by rw [e1.out]; rfl, hb⟩
    · rw [decide_eq_false hx] at he
      subst he
      have e1 : Hid (pointT 7 x y n = []) := by
        unfold Hid
        rw [e0.out, if_neg (fun h => hx h.1)]
      go_wp2_with fail
      go_ret
      exact ⟨by rw [e1.out]; rfl, hb⟩
  by_cases e8 : op = 8
  · subst e8
    have e0 : Hid (pointT 8 x y n = if ((0 ≤ x ∧ x ≤ 5) ∧ (0 ≤ y ∧ y ≤ 5) ∧ (0 ≤ n ∧ n ≤ 9)) then stmtT 8 x y n [] [] else []) := by simp [Hid, pointT]
    have ta := textAt_8
    go_enter Try.func15, Try.ntmps15
    go_wp2_with fail
    refine (kindOf_8 x y n none none 0 0 0 0 _).mono ?_
    rintro E w1 ⟨rfl, hb1⟩
    rw [HZ.out] at hb1
    have hs1 := hb1.size
    rw [HZ.out] at hs1
    have hB1 := (hb1.block w.heap.size (by omega)).trans HC.out
    have c1 : w1.cell? ⟨w.heap.size, 1, none⟩ = some (.int .i64 x) := (cell_of_block hB1 1).trans rfl
    have c2 : w1.cell? ⟨w.heap.size, 2, none⟩ = some (.int .i64 y) := (cell_of_block hB1 2).trans rfl
    have c3 : w1.cell? ⟨w.heap.size, 3, none⟩ = some (.int .i64 n) := (cell_of_block hB1 3).trans rfl
    have hb : Below w.heap.size w w1 := hb0.trans (hb1.mono (by omega))
    clear hB1 hb1 hb0
    go_wp2_with fail
    refine (isVar_any x _).mono ?_
    rintro E w' ⟨he, rfl⟩
    by_cases hx : 0 ≤ x ∧ x ≤ 5
    · rw [decide_eq_true hx] at he
      subst he
      go_wp2_with fail
      refine (isVar_any y _).mono ?_
      rintro E w' ⟨he, rfl⟩
      by_cases hy : 0 ≤ y ∧ y ≤ 5
      · rw [decide_eq_true hy] at he
        subst he
        go_wp2_with fail
        refine (isNumber_any n _).mono ?_
        rintro E w' ⟨he, rfl⟩
        by_cases hn : 0 ≤ n ∧ n ≤ 9
        · rw [decide_eq_true hn] at he
          subst he
          have e1 : Hid (pointT 8 x y n = stmtT 8 x y n [] []) := by
            unfold Hid
            rw [e0.out, if_pos ⟨hx, hy, hn⟩]
          go_wp2_with fail
          refine (text_8 x w1 hx).mono ?_
          rintro E w2 ⟨rfl, hb2⟩
          go_wp2_with fail
          go_ret
          exact ⟨by rw [e1.out]; rfl, hb.trans (hb2.mono hb.size)⟩
        · rw [decide_eq_false hn] at he
          subst he
          have e1 : Hid (pointT 8 x y n = []) := by
            unfold Hid
            rw [e0.out, if_neg (fun h => hn h.2.2)]
          go_wp2_with fail
          go_ret
          exact ⟨by rw [e1.out]; rfl, hb⟩
      · rw [decide_eq_false hy] at he
        subst he
        have e1 : Hid (pointT 8 x y n = []) := by
          unfold Hid
          rw [e0.out, if_neg (fun h => hy h.2.1)]
        go_wp2_with fail
        go_ret
        exact ⟨by rw [e1.out]; rfl, hb⟩
    · rw [decide_eq_false hx] at he
      subst he
      have e1 : Hid (pointT 8 x y n = []) := by
        unfold Hid
        rw [e0.out, if_neg (fun h => hx h.1)]
      go_wp2_with fail
      go_ret
      exact ⟨by rw [e1.out]; rfl, hb⟩
  by_cases hop : 1 ≤ op ∧ op ≤ 8
  · omega
  · have e0 : Hid (pointT op x y n = []) := by
      unfold Hid pointT
      rw [if_neg e11, if_neg e9, if_neg (fun h => e10 h.1), if_neg e10, if_neg (fun h => hop h.1)]
    have k1 : (op == 1) = false := by simp; omega
    have k2 : (op == 2) = false := by simp; omega
    have k3 : (op == 3) = false := by simp; omega
    have k4 : (op == 4) = false := by simp; omega
    have k5 : (op == 5) = false := by simp; omega
    have k6 : (op == 6) = false := by simp; omega
    have k7 : (op == 7) = false := by simp; omega
    have k8 : (op == 8) = false := by simp; omega
    have k9 : (op == 9) = false := by simp; omega
    have k10 : (op == 10) = false := by simp; omega
    go_enter Try.func15, Try.ntmps15
    go_wp2_with fail
    refine (kindOf_0 op x y n none none 0 0 0 0 _ k1 k2 k3 k4 k5 k6 k7 k8 k9 k10).mono ?_
    rintro E w1 ⟨rfl, hb1⟩
    go_wp2_with fail
    go_ret
    exact ⟨by rw [e0.out]; rfl, hb0.trans (hb1.mono (by simp))⟩

end Go.Proofs.Ytgjecledchhlgaa
