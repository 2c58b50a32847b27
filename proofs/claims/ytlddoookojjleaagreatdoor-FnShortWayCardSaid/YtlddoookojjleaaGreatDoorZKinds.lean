/-
  The program's kinds of statements: whether they fit their variables, and their plain fields.
-/
import Derived.Test.YtlddoookojjleaaGreatDoorZSpecA
import Derived.Test.YtlddoookojjleaaGreatDoorZCopy0
namespace Go.Proofs.YtlddoookojjleaaGreatDoor
open Go.RowKit Go.Deep
set_option linter.unusedVariables false

theorem typeOf_any (ts : List Int) (A : Option Addr) (c : Nat) (v : Int) (w : World) (hT : IntsV w 0 w.heap.size ts A c) :
    Calls Tryz.prog 92 #[.slice A ts.length c, .int .i64 v] w fun e w' => e = .returned (.int .i64 (tyAt ts v)) ∧ w = w' := by
  have hm := hT.2.1
  have hlc := hT.1
  unfold maxLen at hm
  by_cases h0 : v < 0
  · have e0 : tyAt ts v = 0 := if_pos (Or.inl h0)
    rw [e0]
    go_enter Tryz.func92, Tryz.ntmps92
    go_wp2_with fail
    go_ret
    exact ⟨rfl, rfl⟩
  · by_cases h1 : (ts.length : Int) ≤ v
    · have e0 : tyAt ts v = 0 := if_pos (Or.inr h1)
      rw [e0]
      go_enter Tryz.func92, Tryz.ntmps92
      go_wp2_with fail
      go_ret
      exact ⟨rfl, rfl⟩
    · obtain ⟨k, rfl⟩ : ∃ k : Nat, v = k := ⟨v.toNat, by omega⟩
      have hk : k < ts.length := by omega
      obtain ⟨b, u, rfl, -, hbb, hx, hc⟩ := hT.elem hk
      have e0 : tyAt ts k = u := by
        unfold tyAt
        rw [if_neg (by omega)]
        simp [hx]
      rw [e0]
      clear hx e0
      go_enter Tryz.func92, Tryz.ntmps92
      go_wp2_with fail
      go_ret
      exact ⟨rfl, rfl⟩

theorem isReferenceT_any (t : Int) (w : World) : Calls Tryz.prog 93 #[.int .i64 t] w fun e w' => e = .returned (.bool (decide (t = 3 ∨ t = 4))) ∧ w = w' := by
  by_cases h3 : t = 3
  · subst h3
    go_enter Tryz.func93, Tryz.ntmps93
    go_wp2_with fail
    go_ret
    exact ⟨rfl, rfl⟩
  · have h3' : (t == 3) = false := by simpa using h3
    go_enter Tryz.func93, Tryz.ntmps93
    go_wp2_with fail
    go_ret
    exact ⟨ret_bool (by rw [Bool.eq_iff_iff]; simp [h3]), rfl⟩

theorem reachesCell_any (t : Int) (w : World) : Calls Tryz.prog 107 #[.int .i64 t] w fun e w' => e = .returned (.bool (decide (t = 2 ∨ t = 3 ∨ t = 4))) ∧ w = w' := by
  by_cases h2 : t = 2
  · subst h2
    go_enter Tryz.func107, Tryz.ntmps107
    go_wp2_with fail
    go_ret
    exact ⟨rfl, rfl⟩
  · have h2' : (t == 2) = false := by simpa using h2
    go_enter Tryz.func107, Tryz.ntmps107
    go_wp2_with fail
    refine (isReferenceT_any t w).mono ?_
    rintro E w1 ⟨rfl, rfl⟩
    go_wp2_with fail
    go_ret
    exact ⟨ret_bool (by rw [Bool.eq_iff_iff]; simp [h2]), rfl⟩

theorem writesCell_any (t : Int) (w : World) : Calls Tryz.prog 111 #[.int .i64 t] w fun e w' => e = .returned (.bool (decide (t = 2 ∨ t = 4))) ∧ w = w' := by
  by_cases h3 : t = 2
  · subst h3
    go_enter Tryz.func111, Tryz.ntmps111
    go_wp2_with fail
    go_ret
    exact ⟨rfl, rfl⟩
  · have h3' : (t == 2) = false := by simpa using h3
    go_enter Tryz.func111, Tryz.ntmps111
    go_wp2_with fail
    go_ret
    exact ⟨ret_bool (by rw [Bool.eq_iff_iff]; simp [h3]), rfl⟩

theorem isNumber_any (n : Int) (w : World) : Calls Tryz.prog 97 #[.int .i64 n] w fun e w' => e = .returned (.bool (decide (0 ≤ n ∧ n ≤ 9))) ∧ w = w' := by
  go_enter Tryz.func97, Tryz.ntmps97
  go_wp2_with fail
  all_goals
    go_ret
    refine ⟨ret_bool ?_, rfl⟩
    first | rfl | (rw [Bool.eq_iff_iff]; simp; omega) | (simp; omega)

/-- Whether a simple statement fits: by its operation, its variables' types, its fields. -/
def fitsB (op tx ty x y n : Int) : Bool :=
  if op = 1 then decide (tx = 1 ∧ 0 ≤ n ∧ n ≤ 9)
  else if op = 2 then decide (tx = 2 ∧ 0 ≤ n ∧ n ≤ 9)
  else if op = 3 then decide (¬ tx = 0 ∧ ty = tx ∧ ¬ x = y)
  else if op = 4 then decide (tx = 3 ∧ (ty = 2 ∨ ty = 3 ∨ ty = 4) ∧ ¬ x = y)
  else if op = 5 then decide (tx = 4 ∧ (ty = 2 ∨ ty = 4) ∧ ¬ x = y)
  else if op = 6 then decide (tx = 1 ∧ (ty = 2 ∨ ty = 3 ∨ ty = 4))
  else if op = 7 then decide ((tx = 2 ∨ tx = 4) ∧ ty = 1)
  else if op = 8 then decide (tx = 2)
  else true

set_option maxHeartbeats 1000000 in
theorem fits_1 (ts : List Int) (A : Option Addr) (c : Nat) (x y n tx ty : Int) (w : World) (hT : IntsV w 0 w.heap.size ts A c) (hx : Hid (tyAt ts x = tx)) (hy : Hid (tyAt ts y = ty)) :
    Calls Tryz.prog 94 #[.agg #[.int .i64 x, .int .i64 n], .slice A ts.length c] w fun e w' => e = .returned (.bool (fitsB 1 tx ty x y n)) ∧ Below w.heap.size w w' := by
  have hT1 : IntsV (w.alloc (.cells #[.int .i64 x, .int .i64 n] 136)) 0 (w.alloc (.cells #[.int .i64 x, .int .i64 n] 136)).heap.size ts A c := hT.below ((Below.refl _ _).alloc (Nat.le_refl _) _) (by simp)
  by_cases h1 : tx = 1
  · subst h1
    by_cases h2 : 0 ≤ n ∧ n ≤ 9
    · have H2 : Hid (decide (0 ≤ n ∧ n ≤ 9) = true) := by unfold Hid; simpa using h2
      have e0 : fitsB 1 1 ty x y n = true := by simp [fitsB, h2]
      rw [e0]
      clear e0
      clear h2
      go_enter Tryz.func94, Tryz.ntmps94
      go_wp2_with fail
      refine (typeOf_any ts A c x _ hT1).mono ?_
      rintro E w1 ⟨he, rfl⟩
      rw [hx.out] at he
      subst he
      go_wp2_with fail
      refine (isNumber_any n _).mono ?_
      rintro E w1 ⟨he, rfl⟩
      rw [H2.out] at he
      subst he
      go_wp2_with fail
      go_ret
      exact ⟨rfl, (Below.refl _ _).alloc (Nat.le_refl _) _⟩
    · have H2 : Hid (decide (0 ≤ n ∧ n ≤ 9) = false) := by unfold Hid; simpa using h2
      have e0 : fitsB 1 1 ty x y n = false := by simp only [fitsB]; simpa using h2
      rw [e0]
      clear e0
      clear h2
      go_enter Tryz.func94, Tryz.ntmps94
      go_wp2_with fail
      refine (typeOf_any ts A c x _ hT1).mono ?_
      rintro E w1 ⟨he, rfl⟩
      rw [hx.out] at he
      subst he
      go_wp2_with fail
      refine (isNumber_any n _).mono ?_
      rintro E w1 ⟨he, rfl⟩
      rw [H2.out] at he
      subst he
      go_wp2_with fail
      go_ret
      exact ⟨rfl, (Below.refl _ _).alloc (Nat.le_refl _) _⟩
  · have h1' : (tx == 1) = false := by simpa using h1
    have e0 : fitsB 1 tx ty x y n = false := by simp [fitsB, h1]
    rw [e0]
    clear e0
    go_enter Tryz.func94, Tryz.ntmps94
    go_wp2_with fail
    refine (typeOf_any ts A c x _ hT1).mono ?_
    rintro E w1 ⟨he, rfl⟩
    rw [hx.out] at he
    subst he
    go_wp2_with fail
    go_ret
    exact ⟨rfl, (Below.refl _ _).alloc (Nat.le_refl _) _⟩

set_option maxHeartbeats 1000000 in
theorem fits_2 (ts : List Int) (A : Option Addr) (c : Nat) (x y n tx ty : Int) (w : World) (hT : IntsV w 0 w.heap.size ts A c) (hx : Hid (tyAt ts x = tx)) (hy : Hid (tyAt ts y = ty)) :
    Calls Tryz.prog 98 #[.agg #[.int .i64 x, .int .i64 n], .slice A ts.length c] w fun e w' => e = .returned (.bool (fitsB 2 tx ty x y n)) ∧ Below w.heap.size w w' := by
  have hT1 : IntsV (w.alloc (.cells #[.int .i64 x, .int .i64 n] 137)) 0 (w.alloc (.cells #[.int .i64 x, .int .i64 n] 137)).heap.size ts A c := hT.below ((Below.refl _ _).alloc (Nat.le_refl _) _) (by simp)
  by_cases h1 : tx = 2
  · subst h1
    by_cases h2 : 0 ≤ n ∧ n ≤ 9
    · have H2 : Hid (decide (0 ≤ n ∧ n ≤ 9) = true) := by unfold Hid; simpa using h2
      have e0 : fitsB 2 2 ty x y n = true := by simp [fitsB, h2]
      rw [e0]
      clear e0
      clear h2
      go_enter Tryz.func98, Tryz.ntmps98
      go_wp2_with fail
      refine (typeOf_any ts A c x _ hT1).mono ?_
      rintro E w1 ⟨he, rfl⟩
      rw [hx.out] at he
      subst he
      go_wp2_with fail
      refine (isNumber_any n _).mono ?_
      rintro E w1 ⟨he, rfl⟩
      rw [H2.out] at he
      subst he
      go_wp2_with fail
      go_ret
      exact ⟨rfl, (Below.refl _ _).alloc (Nat.le_refl _) _⟩
    · have H2 : Hid (decide (0 ≤ n ∧ n ≤ 9) = false) := by unfold Hid; simpa using h2
      have e0 : fitsB 2 2 ty x y n = false := by simp only [fitsB]; simpa using h2
      rw [e0]
      clear e0
      clear h2
      go_enter Tryz.func98, Tryz.ntmps98
      go_wp2_with fail
      refine (typeOf_any ts A c x _ hT1).mono ?_
      rintro E w1 ⟨he, rfl⟩
      rw [hx.out] at he
      subst he
      go_wp2_with fail
      refine (isNumber_any n _).mono ?_
      rintro E w1 ⟨he, rfl⟩
      rw [H2.out] at he
      subst he
      go_wp2_with fail
      go_ret
      exact ⟨rfl, (Below.refl _ _).alloc (Nat.le_refl _) _⟩
  · have h1' : (tx == 2) = false := by simpa using h1
    have e0 : fitsB 2 tx ty x y n = false := by simp [fitsB, h1]
    rw [e0]
    clear e0
    go_enter Tryz.func98, Tryz.ntmps98
    go_wp2_with fail
    refine (typeOf_any ts A c x _ hT1).mono ?_
    rintro E w1 ⟨he, rfl⟩
    rw [hx.out] at he
    subst he
    go_wp2_with fail
    go_ret
    exact ⟨rfl, (Below.refl _ _).alloc (Nat.le_refl _) _⟩

set_option maxHeartbeats 1000000 in
theorem fits_3 (ts : List Int) (A : Option Addr) (c : Nat) (x y n tx ty : Int) (w : World) (hT : IntsV w 0 w.heap.size ts A c) (hx : Hid (tyAt ts x = tx)) (hy : Hid (tyAt ts y = ty)) :
    Calls Tryz.prog 101 #[.agg #[.int .i64 x, .int .i64 y], .slice A ts.length c] w fun e w' => e = .returned (.bool (fitsB 3 tx ty x y n)) ∧ Below w.heap.size w w' := by
  have hT1 : IntsV (w.alloc (.cells #[.int .i64 x, .int .i64 y] 139)) 0 (w.alloc (.cells #[.int .i64 x, .int .i64 y] 139)).heap.size ts A c := hT.below ((Below.refl _ _).alloc (Nat.le_refl _) _) (by simp)
  by_cases h1 : tx = 0
  · subst h1
    have e0 : fitsB 3 0 ty x y n = false := by simp [fitsB]
    rw [e0]
    clear e0
    go_enter Tryz.func101, Tryz.ntmps101
    go_wp2_with fail
    refine (typeOf_any ts A c x _ hT1).mono ?_
    rintro E w1 ⟨he, rfl⟩
    rw [hx.out] at he
    subst he
    go_wp2_with fail
    go_ret
    exact ⟨rfl, (Below.refl _ _).alloc (Nat.le_refl _) _⟩
  · have h1' : (tx != 0) = true := by simpa using h1
    by_cases h2 : ty = tx
    · subst h2
      by_cases h3 : x = y
      · subst h3
        have e0 : fitsB 3 ty ty x x n = false := by simp [fitsB]
        rw [e0]
        clear e0
        go_enter Tryz.func101, Tryz.ntmps101
        go_wp2_with fail
        refine (typeOf_any ts A c x _ hT1).mono ?_
        rintro E w1 ⟨he, rfl⟩
        rw [hx.out] at he
        subst he
        go_wp2_with fail
        refine (typeOf_any ts A c x _ hT1).mono ?_
        rintro E w1 ⟨he, rfl⟩
        rw [hy.out] at he
        subst he
        go_wp2_with fail
        go_ret
        exact ⟨rfl, (Below.refl _ _).alloc (Nat.le_refl _) _⟩
      · have h3' : (x != y) = true := by simpa using h3
        have e0 : fitsB 3 ty ty x y n = true := by simp [fitsB, h1, h3]
        rw [e0]
        clear e0
        go_enter Tryz.func101, Tryz.ntmps101
        go_wp2_with fail
        refine (typeOf_any ts A c x _ hT1).mono ?_
        rintro E w1 ⟨he, rfl⟩
        rw [hx.out] at he
        subst he
        go_wp2_with fail
        refine (typeOf_any ts A c y _ hT1).mono ?_
        rintro E w1 ⟨he, rfl⟩
        rw [hy.out] at he
        subst he
        go_wp2_with fail
        go_ret
        exact ⟨rfl, (Below.refl _ _).alloc (Nat.le_refl _) _⟩
    · have h2' : (ty == tx) = false := by simpa using h2
      have e0 : fitsB 3 tx ty x y n = false := by simp [fitsB, h2]
      rw [e0]
      clear e0
      go_enter Tryz.func101, Tryz.ntmps101
      go_wp2_with fail
      refine (typeOf_any ts A c x _ hT1).mono ?_
      rintro E w1 ⟨he, rfl⟩
      rw [hx.out] at he
      subst he
      go_wp2_with fail
      refine (typeOf_any ts A c y _ hT1).mono ?_
      rintro E w1 ⟨he, rfl⟩
      rw [hy.out] at he
      subst he
      go_wp2_with fail
      go_ret
      exact ⟨rfl, (Below.refl _ _).alloc (Nat.le_refl _) _⟩

set_option maxHeartbeats 1000000 in
theorem fits_4 (ts : List Int) (A : Option Addr) (c : Nat) (x y n tx ty : Int) (w : World) (hT : IntsV w 0 w.heap.size ts A c) (hx : Hid (tyAt ts x = tx)) (hy : Hid (tyAt ts y = ty)) :
    Calls Tryz.prog 104 #[.agg #[.int .i64 x, .int .i64 y], .slice A ts.length c] w fun e w' => e = .returned (.bool (fitsB 4 tx ty x y n)) ∧ Below w.heap.size w w' := by
  have hT1 : IntsV (w.alloc (.cells #[.int .i64 x, .int .i64 y] 140)) 0 (w.alloc (.cells #[.int .i64 x, .int .i64 y] 140)).heap.size ts A c := hT.below ((Below.refl _ _).alloc (Nat.le_refl _) _) (by simp)
  by_cases h1 : tx = 3
  · subst h1
    by_cases h2 : ty = 2 ∨ ty = 3 ∨ ty = 4
    · have H2 : Hid (decide (ty = 2 ∨ ty = 3 ∨ ty = 4) = true) := by unfold Hid; simpa using h2
      by_cases h3 : x = y
      · subst h3
        have e0 : fitsB 4 3 ty x x n = false := by simp [fitsB]
        rw [e0]
        clear e0 h2
        go_enter Tryz.func104, Tryz.ntmps104
        go_wp2_with fail
        refine (typeOf_any ts A c x _ hT1).mono ?_
        rintro E w1 ⟨he, rfl⟩
        rw [hx.out] at he
        subst he
        go_wp2_with fail
        refine (typeOf_any ts A c x _ hT1).mono ?_
        rintro E w1 ⟨he, rfl⟩
        rw [hy.out] at he
        subst he
        go_wp2_with fail
        refine (reachesCell_any ty _).mono ?_
        rintro E w1 ⟨he, rfl⟩
        rw [H2.out] at he
        subst he
        go_wp2_with fail
        go_ret
        exact ⟨rfl, (Below.refl _ _).alloc (Nat.le_refl _) _⟩
      · have h3' : (x != y) = true := by simpa using h3
        have e0 : fitsB 4 3 ty x y n = true := by simp [fitsB, h2, h3]
        rw [e0]
        clear e0 h2
        go_enter Tryz.func104, Tryz.ntmps104
        go_wp2_with fail
        refine (typeOf_any ts A c x _ hT1).mono ?_
        rintro E w1 ⟨he, rfl⟩
        rw [hx.out] at he
        subst he
        go_wp2_with fail
        refine (typeOf_any ts A c y _ hT1).mono ?_
        rintro E w1 ⟨he, rfl⟩
        rw [hy.out] at he
        subst he
        go_wp2_with fail
        refine (reachesCell_any ty _).mono ?_
        rintro E w1 ⟨he, rfl⟩
        rw [H2.out] at he
        subst he
        go_wp2_with fail
        go_ret
        exact ⟨rfl, (Below.refl _ _).alloc (Nat.le_refl _) _⟩
    · have H2 : Hid (decide (ty = 2 ∨ ty = 3 ∨ ty = 4) = false) := by unfold Hid; simpa using h2
      have e0 : fitsB 4 3 ty x y n = false := by simp [fitsB, h2]
      rw [e0]
      clear e0 h2
      go_enter Tryz.func104, Tryz.ntmps104
      go_wp2_with fail
      refine (typeOf_any ts A c x _ hT1).mono ?_
      rintro E w1 ⟨he, rfl⟩
      rw [hx.out] at he
      subst he
      go_wp2_with fail
      refine (typeOf_any ts A c y _ hT1).mono ?_
      rintro E w1 ⟨he, rfl⟩
      rw [hy.out] at he
      subst he
      go_wp2_with fail
      refine (reachesCell_any ty _).mono ?_
      rintro E w1 ⟨he, rfl⟩
      rw [H2.out] at he
      subst he
      go_wp2_with fail
      go_ret
      exact ⟨rfl, (Below.refl _ _).alloc (Nat.le_refl _) _⟩
  · have h1' : (tx == 3) = false := by simpa using h1
    have e0 : fitsB 4 tx ty x y n = false := by simp [fitsB, h1]
    rw [e0]
    clear e0
    go_enter Tryz.func104, Tryz.ntmps104
    go_wp2_with fail
    refine (typeOf_any ts A c x _ hT1).mono ?_
    rintro E w1 ⟨he, rfl⟩
    rw [hx.out] at he
    subst he
    go_wp2_with fail
    go_ret
    exact ⟨rfl, (Below.refl _ _).alloc (Nat.le_refl _) _⟩

set_option maxHeartbeats 1000000 in
theorem fits_5 (ts : List Int) (A : Option Addr) (c : Nat) (x y n tx ty : Int) (w : World) (hT : IntsV w 0 w.heap.size ts A c) (hx : Hid (tyAt ts x = tx)) (hy : Hid (tyAt ts y = ty)) :
    Calls Tryz.prog 108 #[.agg #[.int .i64 x, .int .i64 y], .slice A ts.length c] w fun e w' => e = .returned (.bool (fitsB 5 tx ty x y n)) ∧ Below w.heap.size w w' := by
  have hT1 : IntsV (w.alloc (.cells #[.int .i64 x, .int .i64 y] 141)) 0 (w.alloc (.cells #[.int .i64 x, .int .i64 y] 141)).heap.size ts A c := hT.below ((Below.refl _ _).alloc (Nat.le_refl _) _) (by simp)
  by_cases h1 : tx = 4
  · subst h1
    by_cases h2 : ty = 2 ∨ ty = 4
    · have H2 : Hid (decide (ty = 2 ∨ ty = 4) = true) := by unfold Hid; simpa using h2
      by_cases h3 : x = y
      · subst h3
        have e0 : fitsB 5 4 ty x x n = false := by simp [fitsB]
        rw [e0]
        clear e0 h2
        go_enter Tryz.func108, Tryz.ntmps108
        go_wp2_with fail
        refine (typeOf_any ts A c x _ hT1).mono ?_
        rintro E w1 ⟨he, rfl⟩
        rw [hx.out] at he
        subst he
        go_wp2_with fail
        refine (typeOf_any ts A c x _ hT1).mono ?_
        rintro E w1 ⟨he, rfl⟩
        rw [hy.out] at he
        subst he
        go_wp2_with fail
        refine (writesCell_any ty _).mono ?_
        rintro E w1 ⟨he, rfl⟩
        rw [H2.out] at he
        subst he
        go_wp2_with fail
        go_ret
        exact ⟨rfl, (Below.refl _ _).alloc (Nat.le_refl _) _⟩
      · have h3' : (x != y) = true := by simpa using h3
        have e0 : fitsB 5 4 ty x y n = true := by simp [fitsB, h2, h3]
        rw [e0]
        clear e0 h2
        go_enter Tryz.func108, Tryz.ntmps108
        go_wp2_with fail
        refine (typeOf_any ts A c x _ hT1).mono ?_
        rintro E w1 ⟨he, rfl⟩
        rw [hx.out] at he
        subst he
        go_wp2_with fail
        refine (typeOf_any ts A c y _ hT1).mono ?_
        rintro E w1 ⟨he, rfl⟩
        rw [hy.out] at he
        subst he
        go_wp2_with fail
        refine (writesCell_any ty _).mono ?_
        rintro E w1 ⟨he, rfl⟩
        rw [H2.out] at he
        subst he
        go_wp2_with fail
        go_ret
        exact ⟨rfl, (Below.refl _ _).alloc (Nat.le_refl _) _⟩
    · have H2 : Hid (decide (ty = 2 ∨ ty = 4) = false) := by unfold Hid; simpa using h2
      have e0 : fitsB 5 4 ty x y n = false := by simp [fitsB, h2]
      rw [e0]
      clear e0 h2
      go_enter Tryz.func108, Tryz.ntmps108
      go_wp2_with fail
      refine (typeOf_any ts A c x _ hT1).mono ?_
      rintro E w1 ⟨he, rfl⟩
      rw [hx.out] at he
      subst he
      go_wp2_with fail
      refine (typeOf_any ts A c y _ hT1).mono ?_
      rintro E w1 ⟨he, rfl⟩
      rw [hy.out] at he
      subst he
      go_wp2_with fail
      refine (writesCell_any ty _).mono ?_
      rintro E w1 ⟨he, rfl⟩
      rw [H2.out] at he
      subst he
      go_wp2_with fail
      go_ret
      exact ⟨rfl, (Below.refl _ _).alloc (Nat.le_refl _) _⟩
  · have h1' : (tx == 4) = false := by simpa using h1
    have e0 : fitsB 5 tx ty x y n = false := by simp [fitsB, h1]
    rw [e0]
    clear e0
    go_enter Tryz.func108, Tryz.ntmps108
    go_wp2_with fail
    refine (typeOf_any ts A c x _ hT1).mono ?_
    rintro E w1 ⟨he, rfl⟩
    rw [hx.out] at he
    subst he
    go_wp2_with fail
    go_ret
    exact ⟨rfl, (Below.refl _ _).alloc (Nat.le_refl _) _⟩

set_option maxHeartbeats 1000000 in
theorem fits_6 (ts : List Int) (A : Option Addr) (c : Nat) (x y n tx ty : Int) (w : World) (hT : IntsV w 0 w.heap.size ts A c) (hx : Hid (tyAt ts x = tx)) (hy : Hid (tyAt ts y = ty)) :
    Calls Tryz.prog 112 #[.agg #[.int .i64 x, .int .i64 y], .slice A ts.length c] w fun e w' => e = .returned (.bool (fitsB 6 tx ty x y n)) ∧ Below w.heap.size w w' := by
  have hT1 : IntsV (w.alloc (.cells #[.int .i64 x, .int .i64 y] 142)) 0 (w.alloc (.cells #[.int .i64 x, .int .i64 y] 142)).heap.size ts A c := hT.below ((Below.refl _ _).alloc (Nat.le_refl _) _) (by simp)
  by_cases h1 : tx = 1
  · subst h1
    by_cases h2 : ty = 2 ∨ ty = 3 ∨ ty = 4
    · have H2 : Hid (decide (ty = 2 ∨ ty = 3 ∨ ty = 4) = true) := by unfold Hid; simpa using h2
      have e0 : fitsB 6 1 ty x y n = true := by simp [fitsB, h2]
      rw [e0]
      clear e0 h2
      go_enter Tryz.func112, Tryz.ntmps112
      go_wp2_with fail
      refine (typeOf_any ts A c x _ hT1).mono ?_
      rintro E w1 ⟨he, rfl⟩
      rw [hx.out] at he
      subst he
      go_wp2_with fail
      refine (typeOf_any ts A c y _ hT1).mono ?_
      rintro E w1 ⟨he, rfl⟩
      rw [hy.out] at he
      subst he
      go_wp2_with fail
      refine (reachesCell_any ty _).mono ?_
      rintro E w1 ⟨he, rfl⟩
      rw [H2.out] at he
      subst he
      go_wp2_with fail
      go_ret
      exact ⟨rfl, (Below.refl _ _).alloc (Nat.le_refl _) _⟩
    · have H2 : Hid (decide (ty = 2 ∨ ty = 3 ∨ ty = 4) = false) := by unfold Hid; simpa using h2
      have e0 : fitsB 6 1 ty x y n = false := by simp [fitsB, h2]
      rw [e0]
      clear e0 h2
      go_enter Tryz.func112, Tryz.ntmps112
      go_wp2_with fail
      refine (typeOf_any ts A c x _ hT1).mono ?_
      rintro E w1 ⟨he, rfl⟩
      rw [hx.out] at he
      subst he
      go_wp2_with fail
      refine (typeOf_any ts A c y _ hT1).mono ?_
      rintro E w1 ⟨he, rfl⟩
      rw [hy.out] at he
      subst he
      go_wp2_with fail
      refine (reachesCell_any ty _).mono ?_
      rintro E w1 ⟨he, rfl⟩
      rw [H2.out] at he
      subst he
      go_wp2_with fail
      go_ret
      exact ⟨rfl, (Below.refl _ _).alloc (Nat.le_refl _) _⟩
  · have h1' : (tx == 1) = false := by simpa using h1
    have e0 : fitsB 6 tx ty x y n = false := by simp [fitsB, h1]
    rw [e0]
    clear e0
    go_enter Tryz.func112, Tryz.ntmps112
    go_wp2_with fail
    refine (typeOf_any ts A c x _ hT1).mono ?_
    rintro E w1 ⟨he, rfl⟩
    rw [hx.out] at he
    subst he
    go_wp2_with fail
    go_ret
    exact ⟨rfl, (Below.refl _ _).alloc (Nat.le_refl _) _⟩

set_option maxHeartbeats 1000000 in
theorem fits_7 (ts : List Int) (A : Option Addr) (c : Nat) (x y n tx ty : Int) (w : World) (hT : IntsV w 0 w.heap.size ts A c) (hx : Hid (tyAt ts x = tx)) (hy : Hid (tyAt ts y = ty)) :
    Calls Tryz.prog 115 #[.agg #[.int .i64 x, .int .i64 y], .slice A ts.length c] w fun e w' => e = .returned (.bool (fitsB 7 tx ty x y n)) ∧ Below w.heap.size w w' := by
  have hT1 : IntsV (w.alloc (.cells #[.int .i64 x, .int .i64 y] 143)) 0 (w.alloc (.cells #[.int .i64 x, .int .i64 y] 143)).heap.size ts A c := hT.below ((Below.refl _ _).alloc (Nat.le_refl _) _) (by simp)
  by_cases h1 : tx = 2 ∨ tx = 4
  · have H1 : Hid (decide (tx = 2 ∨ tx = 4) = true) := by unfold Hid; simpa using h1
    by_cases h2 : ty = 1
    · subst h2
      have e0 : fitsB 7 tx 1 x y n = true := by simp [fitsB, h1]
      rw [e0]
      clear e0 h1
      go_enter Tryz.func115, Tryz.ntmps115
      go_wp2_with fail
      refine (typeOf_any ts A c x _ hT1).mono ?_
      rintro E w1 ⟨he, rfl⟩
      rw [hx.out] at he
      subst he
      go_wp2_with fail
      refine (writesCell_any tx _).mono ?_
      rintro E w1 ⟨he, rfl⟩
      rw [H1.out] at he
      subst he
      go_wp2_with fail
      refine (typeOf_any ts A c y _ hT1).mono ?_
      rintro E w1 ⟨he, rfl⟩
      rw [hy.out] at he
      subst he
      go_wp2_with fail
      go_ret
      exact ⟨rfl, (Below.refl _ _).alloc (Nat.le_refl _) _⟩
    · have h2' : (ty == 1) = false := by simpa using h2
      have e0 : fitsB 7 tx ty x y n = false := by simp [fitsB, h2]
      rw [e0]
      clear e0 h1
      go_enter Tryz.func115, Tryz.ntmps115
      go_wp2_with fail
      refine (typeOf_any ts A c x _ hT1).mono ?_
      rintro E w1 ⟨he, rfl⟩
      rw [hx.out] at he
      subst he
      go_wp2_with fail
      refine (writesCell_any tx _).mono ?_
      rintro E w1 ⟨he, rfl⟩
      rw [H1.out] at he
      subst he
      go_wp2_with fail
      refine (typeOf_any ts A c y _ hT1).mono ?_
      rintro E w1 ⟨he, rfl⟩
      rw [hy.out] at he
      subst he
      go_wp2_with fail
      go_ret
      exact ⟨rfl, (Below.refl _ _).alloc (Nat.le_refl _) _⟩
  · have H1 : Hid (decide (tx = 2 ∨ tx = 4) = false) := by unfold Hid; simpa using h1
    have e0 : fitsB 7 tx ty x y n = false := by simp [fitsB, h1]
    rw [e0]
    clear e0 h1
    go_enter Tryz.func115, Tryz.ntmps115
    go_wp2_with fail
    refine (typeOf_any ts A c x _ hT1).mono ?_
    rintro E w1 ⟨he, rfl⟩
    rw [hx.out] at he
    subst he
    go_wp2_with fail
    refine (writesCell_any tx _).mono ?_
    rintro E w1 ⟨he, rfl⟩
    rw [H1.out] at he
    subst he
    go_wp2_with fail
    go_ret
    exact ⟨rfl, (Below.refl _ _).alloc (Nat.le_refl _) _⟩

set_option maxHeartbeats 1000000 in
theorem fits_8 (ts : List Int) (A : Option Addr) (c : Nat) (x y n tx ty : Int) (w : World) (hT : IntsV w 0 w.heap.size ts A c) (hx : Hid (tyAt ts x = tx)) (hy : Hid (tyAt ts y = ty)) :
    Calls Tryz.prog 118 #[.agg #[.int .i64 x], .slice A ts.length c] w fun e w' => e = .returned (.bool (fitsB 8 tx ty x y n)) ∧ Below w.heap.size w w' := by
  have hT1 : IntsV (w.alloc (.cells #[.int .i64 x] 145)) 0 (w.alloc (.cells #[.int .i64 x] 145)).heap.size ts A c := hT.below ((Below.refl _ _).alloc (Nat.le_refl _) _) (by simp)
  by_cases h1 : tx = 2
  · have h1' : (tx == 2) = true := by simpa using h1
    have e0 : fitsB 8 tx ty x y n = true := by simp [fitsB, h1]
    rw [e0]
    clear e0
    clear h1
    go_enter Tryz.func118, Tryz.ntmps118
    go_wp2_with fail
    refine (typeOf_any ts A c x _ hT1).mono ?_
    rintro E w1 ⟨he, rfl⟩
    rw [hx.out] at he
    subst he
    go_wp2_with fail
    go_ret
    exact ⟨rfl, (Below.refl _ _).alloc (Nat.le_refl _) _⟩
  · have h1' : (tx == 2) = false := by simpa using h1
    have e0 : fitsB 8 tx ty x y n = false := by simp [fitsB, h1]
    rw [e0]
    clear e0
    go_enter Tryz.func118, Tryz.ntmps118
    go_wp2_with fail
    refine (typeOf_any ts A c x _ hT1).mono ?_
    rintro E w1 ⟨he, rfl⟩
    rw [hx.out] at he
    subst he
    go_wp2_with fail
    go_ret
    exact ⟨rfl, (Below.refl _ _).alloc (Nat.le_refl _) _⟩

end Go.Proofs.YtlddoookojjleaaGreatDoor
