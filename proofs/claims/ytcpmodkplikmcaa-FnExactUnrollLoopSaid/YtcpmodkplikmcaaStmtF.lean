/-
  The program's tests of a statement and the model's are the same.
-/
import Derived.Test.YtcpmodkplikmcaaSpecC
import Derived.Test.YtcpmodkplikmcaaStmtB1
import Derived.Test.YtcpmodkplikmcaaStmtB2
import Derived.Test.YtcpmodkplikmcaaStmtB3
import Derived.Test.YtcpmodkplikmcaaStmtB4
import Derived.Test.YtcpmodkplikmcaaStmtC
import Derived.Test.YtcpmodkplikmcaaStmtE9
import Derived.Test.YtcpmodkplikmcaaStmtE10
namespace Go.Proofs.Ytcpmodkplikmcaa
open Go.RowKit Go.Deep
set_option linter.unusedVariables false

theorem tyAt_bound {ts : List Int} (h : typesB ts = true) (v : Int) : 0 ≤ tyAt ts v ∧ tyAt ts v ≤ 4 := by
  unfold tyAt
  by_cases hv : v < 0 ∨ (ts.length : Int) ≤ v
  · rw [if_pos hv]; omega
  · rw [if_neg hv]
    have hl : v.toNat < ts.length := by omega
    simp only [typesB, Bool.and_eq_true, List.all_eq_true, decide_eq_true_eq] at h
    have := h.1 ts[v.toNat] (List.getElem_mem hl)
    rw [List.getD_eq_getElem?_getD, List.getElem?_eq_getElem hl]
    simp only [Option.getD_some]
    omega

theorem size_of_len {s : Sts} (h : s.len = 0) : s.size = 0 := by
  cases s with
  | nil => rfl
  | cons => simp [Sts.len] at h

theorem simple_eq_1 (tx ty x y n : Int) (nt ne : Nat) (h1 : 0 ≤ tx) (h2 : tx ≤ 4) (h3 : 0 ≤ ty) (h4 : ty ≤ 4) : (decide (nt = 0 ∧ ne = 0) && simpleB 1 tx ty x y n) = (fitsB 1 tx ty x y n && sameB 1 1 x x y 0 n n nt 0 ne 0) := by
  rw [Bool.eq_iff_iff]
  simp [simpleB, fitsB, sameB] <;> omega

theorem simple_eq_2 (tx ty x y n : Int) (nt ne : Nat) (h1 : 0 ≤ tx) (h2 : tx ≤ 4) (h3 : 0 ≤ ty) (h4 : ty ≤ 4) : (decide (nt = 0 ∧ ne = 0) && simpleB 2 tx ty x y n) = (fitsB 2 tx ty x y n && sameB 2 2 x x y 0 n n nt 0 ne 0) := by
  rw [Bool.eq_iff_iff]
  simp [simpleB, fitsB, sameB] <;> omega

theorem simple_eq_3 (tx ty x y n : Int) (nt ne : Nat) (h1 : 0 ≤ tx) (h2 : tx ≤ 4) (h3 : 0 ≤ ty) (h4 : ty ≤ 4) : (decide (nt = 0 ∧ ne = 0) && simpleB 3 tx ty x y n) = (fitsB 3 tx ty x y n && sameB 3 3 x x y y n 0 nt 0 ne 0) := by
  rw [Bool.eq_iff_iff]
  by_cases hn : n = 0 <;> simp [simpleB, fitsB, sameB, hn] <;> omega

theorem simple_eq_4 (tx ty x y n : Int) (nt ne : Nat) (h1 : 0 ≤ tx) (h2 : tx ≤ 4) (h3 : 0 ≤ ty) (h4 : ty ≤ 4) : (decide (nt = 0 ∧ ne = 0) && simpleB 4 tx ty x y n) = (fitsB 4 tx ty x y n && sameB 4 4 x x y y n 0 nt 0 ne 0) := by
  rw [Bool.eq_iff_iff]
  by_cases hn : n = 0 <;> simp [simpleB, fitsB, sameB, hn] <;> omega

theorem simple_eq_5 (tx ty x y n : Int) (nt ne : Nat) (h1 : 0 ≤ tx) (h2 : tx ≤ 4) (h3 : 0 ≤ ty) (h4 : ty ≤ 4) : (decide (nt = 0 ∧ ne = 0) && simpleB 5 tx ty x y n) = (fitsB 5 tx ty x y n && sameB 5 5 x x y y n 0 nt 0 ne 0) := by
  rw [Bool.eq_iff_iff]
  by_cases hn : n = 0 <;> simp [simpleB, fitsB, sameB, hn] <;> omega

theorem simple_eq_6 (tx ty x y n : Int) (nt ne : Nat) (h1 : 0 ≤ tx) (h2 : tx ≤ 4) (h3 : 0 ≤ ty) (h4 : ty ≤ 4) : (decide (nt = 0 ∧ ne = 0) && simpleB 6 tx ty x y n) = (fitsB 6 tx ty x y n && sameB 6 6 x x y y n 0 nt 0 ne 0) := by
  rw [Bool.eq_iff_iff]
  by_cases hn : n = 0 <;> simp [simpleB, fitsB, sameB, hn] <;> omega

theorem simple_eq_7 (tx ty x y n : Int) (nt ne : Nat) (h1 : 0 ≤ tx) (h2 : tx ≤ 4) (h3 : 0 ≤ ty) (h4 : ty ≤ 4) : (decide (nt = 0 ∧ ne = 0) && simpleB 7 tx ty x y n) = (fitsB 7 tx ty x y n && sameB 7 7 x x y y n 0 nt 0 ne 0) := by
  rw [Bool.eq_iff_iff]
  by_cases hn : n = 0 <;> simp [simpleB, fitsB, sameB, hn] <;> omega

theorem simple_eq_8 (tx ty x y n : Int) (nt ne : Nat) (h1 : 0 ≤ tx) (h2 : tx ≤ 4) (h3 : 0 ≤ ty) (h4 : ty ≤ 4) : (decide (nt = 0 ∧ ne = 0) && simpleB 8 tx ty x y n) = (fitsB 8 tx ty x y n && sameB 8 8 x x y 0 n 0 nt 0 ne 0) := by
  rw [Bool.eq_iff_iff]
  by_cases hn : n = 0 <;> simp [simpleB, fitsB, sameB, hn] <;> omega

theorem stmt_op_1 (ts : List Int) (A : Option Addr) (c C : Nat) (x y n m d : Int) (t e : Sts) (At Ae : Option Addr) (ct ce : Nat) (w : World) (hty : typesB ts = true) (hT : IntsV w 0 C ts A c) (hC : w.heap[C]? = some (.cells #[.slice A ts.length c, .int .i64 m] 125 (0, 0))) (hm : 0 ≤ m) (hm30 : m < 30) :
    Calls Try.prog 115 #[.pointer (some ⟨C, 0, none⟩), .agg #[.int .i64 1, .int .i64 x, .int .i64 y, .int .i64 n, .slice At t.len ct, .slice Ae e.len ce], .int .i64 d] w (ListPost C (.slice A ts.length c) w m (stmtB ts (4 - d) 1 x y n t e) (1 + t.size + e.size)) := by
  have hx := tyAt_bound hty x
  have hy := tyAt_bound hty y
  have heq : stmtB ts (4 - d) 1 x y n t e = (fitsB 1 (tyAt ts x) (tyAt ts y) x y n && sameB 1 1 x x y 0 n n t.len 0 e.len 0) := by
    rw [← simple_eq_1 (tyAt ts x) (tyAt ts y) x y n t.len e.len hx.1 hx.2 hy.1 hy.2]
    simp [stmtB]
  by_cases hf : fitsB 1 (tyAt ts x) (tyAt ts y) x y n = true
  · by_cases hs : sameB 1 1 x x y 0 n n t.len 0 e.len 0 = true
    · refine (sv_1_true ts A c C x y n m d _ _ At Ae _ ct _ ce w hT hC rfl rfl hm hm30 hf hs).mono ?_
      rintro E w' ⟨rfl, hk⟩
      have hl : t.len = 0 ∧ e.len = 0 := by
        simp only [sameB, decide_eq_true_eq] at hs
        exact ⟨hs.2.2.2.2.1, hs.2.2.2.2.2⟩
      have h1 := size_of_len hl.1
      have h2 := size_of_len hl.2
      refine ⟨m + 1, ret_bool ?_, hk, fun _ _ => by rw [h1, h2]; simp⟩
      rw [heq, hf, hs, h1, h2]
      simp
      omega
    · have hs' : sameB 1 1 x x y 0 n n t.len 0 e.len 0 = false := by simpa using hs
      refine (sv_1_same ts A c C x y n m d _ _ At Ae _ ct _ ce w hT hC rfl rfl hm hm30 hf hs').mono ?_
      rintro E w' ⟨rfl, hk⟩
      have h0 : stmtB ts (4 - d) 1 x y n t e = false := by rw [heq, hf, hs']; rfl
      rw [h0]
      exact ⟨m + 1, rfl, hk, fun h => by cases h⟩
  · have hf' : fitsB 1 (tyAt ts x) (tyAt ts y) x y n = false := by simpa using hf
    refine (sv_1_fit ts A c C x y n m d _ _ At Ae _ ct _ ce w hT hC rfl rfl hm hm30 hf').mono ?_
    rintro E w' ⟨rfl, hk⟩
    have h0 : stmtB ts (4 - d) 1 x y n t e = false := by rw [heq, hf']; rfl
    rw [h0]
    exact ⟨m + 1, rfl, hk, fun h => by cases h⟩

theorem stmt_op_2 (ts : List Int) (A : Option Addr) (c C : Nat) (x y n m d : Int) (t e : Sts) (At Ae : Option Addr) (ct ce : Nat) (w : World) (hty : typesB ts = true) (hT : IntsV w 0 C ts A c) (hC : w.heap[C]? = some (.cells #[.slice A ts.length c, .int .i64 m] 125 (0, 0))) (hm : 0 ≤ m) (hm30 : m < 30) :
    Calls Try.prog 115 #[.pointer (some ⟨C, 0, none⟩), .agg #[.int .i64 2, .int .i64 x, .int .i64 y, .int .i64 n, .slice At t.len ct, .slice Ae e.len ce], .int .i64 d] w (ListPost C (.slice A ts.length c) w m (stmtB ts (4 - d) 2 x y n t e) (1 + t.size + e.size)) := by
  have hx := tyAt_bound hty x
  have hy := tyAt_bound hty y
  have heq : stmtB ts (4 - d) 2 x y n t e = (fitsB 2 (tyAt ts x) (tyAt ts y) x y n && sameB 2 2 x x y 0 n n t.len 0 e.len 0) := by
    rw [← simple_eq_2 (tyAt ts x) (tyAt ts y) x y n t.len e.len hx.1 hx.2 hy.1 hy.2]
    simp [stmtB]
  by_cases hf : fitsB 2 (tyAt ts x) (tyAt ts y) x y n = true
  · by_cases hs : sameB 2 2 x x y 0 n n t.len 0 e.len 0 = true
    · refine (sv_2_true ts A c C x y n m d _ _ At Ae _ ct _ ce w hT hC rfl rfl hm hm30 hf hs).mono ?_
      rintro E w' ⟨rfl, hk⟩
      have hl : t.len = 0 ∧ e.len = 0 := by
        simp only [sameB, decide_eq_true_eq] at hs
        exact ⟨hs.2.2.2.2.1, hs.2.2.2.2.2⟩
      have h1 := size_of_len hl.1
      have h2 := size_of_len hl.2
      refine ⟨m + 1, ret_bool ?_, hk, fun _ _ => by rw [h1, h2]; simp⟩
      rw [heq, hf, hs, h1, h2]
      simp
      omega
    · have hs' : sameB 2 2 x x y 0 n n t.len 0 e.len 0 = false := by simpa using hs
      refine (sv_2_same ts A c C x y n m d _ _ At Ae _ ct _ ce w hT hC rfl rfl hm hm30 hf hs').mono ?_
      rintro E w' ⟨rfl, hk⟩
      have h0 : stmtB ts (4 - d) 2 x y n t e = false := by rw [heq, hf, hs']; rfl
      rw [h0]
      exact ⟨m + 1, rfl, hk, fun h => by cases h⟩
  · have hf' : fitsB 2 (tyAt ts x) (tyAt ts y) x y n = false := by simpa using hf
    refine (sv_2_fit ts A c C x y n m d _ _ At Ae _ ct _ ce w hT hC rfl rfl hm hm30 hf').mono ?_
    rintro E w' ⟨rfl, hk⟩
    have h0 : stmtB ts (4 - d) 2 x y n t e = false := by rw [heq, hf']; rfl
    rw [h0]
    exact ⟨m + 1, rfl, hk, fun h => by cases h⟩

theorem stmt_op_3 (ts : List Int) (A : Option Addr) (c C : Nat) (x y n m d : Int) (t e : Sts) (At Ae : Option Addr) (ct ce : Nat) (w : World) (hty : typesB ts = true) (hT : IntsV w 0 C ts A c) (hC : w.heap[C]? = some (.cells #[.slice A ts.length c, .int .i64 m] 125 (0, 0))) (hm : 0 ≤ m) (hm30 : m < 30) :
    Calls Try.prog 115 #[.pointer (some ⟨C, 0, none⟩), .agg #[.int .i64 3, .int .i64 x, .int .i64 y, .int .i64 n, .slice At t.len ct, .slice Ae e.len ce], .int .i64 d] w (ListPost C (.slice A ts.length c) w m (stmtB ts (4 - d) 3 x y n t e) (1 + t.size + e.size)) := by
  have hx := tyAt_bound hty x
  have hy := tyAt_bound hty y
  have heq : stmtB ts (4 - d) 3 x y n t e = (fitsB 3 (tyAt ts x) (tyAt ts y) x y n && sameB 3 3 x x y y n 0 t.len 0 e.len 0) := by
    rw [← simple_eq_3 (tyAt ts x) (tyAt ts y) x y n t.len e.len hx.1 hx.2 hy.1 hy.2]
    simp [stmtB]
  by_cases hf : fitsB 3 (tyAt ts x) (tyAt ts y) x y n = true
  · by_cases hs : sameB 3 3 x x y y n 0 t.len 0 e.len 0 = true
    · refine (sv_3_true ts A c C x y n m d _ _ At Ae _ ct _ ce w hT hC rfl rfl hm hm30 hf hs).mono ?_
      rintro E w' ⟨rfl, hk⟩
      have hl : t.len = 0 ∧ e.len = 0 := by
        simp only [sameB, decide_eq_true_eq] at hs
        exact ⟨hs.2.2.2.2.1, hs.2.2.2.2.2⟩
      have h1 := size_of_len hl.1
      have h2 := size_of_len hl.2
      refine ⟨m + 1, ret_bool ?_, hk, fun _ _ => by rw [h1, h2]; simp⟩
      rw [heq, hf, hs, h1, h2]
      simp
      omega
    · have hs' : sameB 3 3 x x y y n 0 t.len 0 e.len 0 = false := by simpa using hs
      refine (sv_3_same ts A c C x y n m d _ _ At Ae _ ct _ ce w hT hC rfl rfl hm hm30 hf hs').mono ?_
      rintro E w' ⟨rfl, hk⟩
      have h0 : stmtB ts (4 - d) 3 x y n t e = false := by rw [heq, hf, hs']; rfl
      rw [h0]
      exact ⟨m + 1, rfl, hk, fun h => by cases h⟩
  · have hf' : fitsB 3 (tyAt ts x) (tyAt ts y) x y n = false := by simpa using hf
    refine (sv_3_fit ts A c C x y n m d _ _ At Ae _ ct _ ce w hT hC rfl rfl hm hm30 hf').mono ?_
    rintro E w' ⟨rfl, hk⟩
    have h0 : stmtB ts (4 - d) 3 x y n t e = false := by rw [heq, hf']; rfl
    rw [h0]
    exact ⟨m + 1, rfl, hk, fun h => by cases h⟩

theorem stmt_op_4 (ts : List Int) (A : Option Addr) (c C : Nat) (x y n m d : Int) (t e : Sts) (At Ae : Option Addr) (ct ce : Nat) (w : World) (hty : typesB ts = true) (hT : IntsV w 0 C ts A c) (hC : w.heap[C]? = some (.cells #[.slice A ts.length c, .int .i64 m] 125 (0, 0))) (hm : 0 ≤ m) (hm30 : m < 30) :
    Calls Try.prog 115 #[.pointer (some ⟨C, 0, none⟩), .agg #[.int .i64 4, .int .i64 x, .int .i64 y, .int .i64 n, .slice At t.len ct, .slice Ae e.len ce], .int .i64 d] w (ListPost C (.slice A ts.length c) w m (stmtB ts (4 - d) 4 x y n t e) (1 + t.size + e.size)) := by
  have hx := tyAt_bound hty x
  have hy := tyAt_bound hty y
  have heq : stmtB ts (4 - d) 4 x y n t e = (fitsB 4 (tyAt ts x) (tyAt ts y) x y n && sameB 4 4 x x y y n 0 t.len 0 e.len 0) := by
    rw [← simple_eq_4 (tyAt ts x) (tyAt ts y) x y n t.len e.len hx.1 hx.2 hy.1 hy.2]
    simp [stmtB]
  by_cases hf : fitsB 4 (tyAt ts x) (tyAt ts y) x y n = true
  · by_cases hs : sameB 4 4 x x y y n 0 t.len 0 e.len 0 = true
    · refine (sv_4_true ts A c C x y n m d _ _ At Ae _ ct _ ce w hT hC rfl rfl hm hm30 hf hs).mono ?_
      rintro E w' ⟨rfl, hk⟩
      have hl : t.len = 0 ∧ e.len = 0 := by
        simp only [sameB, decide_eq_true_eq] at hs
        exact ⟨hs.2.2.2.2.1, hs.2.2.2.2.2⟩
      have h1 := size_of_len hl.1
      have h2 := size_of_len hl.2
      refine ⟨m + 1, ret_bool ?_, hk, fun _ _ => by rw [h1, h2]; simp⟩
      rw [heq, hf, hs, h1, h2]
      simp
      omega
    · have hs' : sameB 4 4 x x y y n 0 t.len 0 e.len 0 = false := by simpa using hs
      refine (sv_4_same ts A c C x y n m d _ _ At Ae _ ct _ ce w hT hC rfl rfl hm hm30 hf hs').mono ?_
      rintro E w' ⟨rfl, hk⟩
      have h0 : stmtB ts (4 - d) 4 x y n t e = false := by rw [heq, hf, hs']; rfl
      rw [h0]
      exact ⟨m + 1, rfl, hk, fun h => by cases h⟩
  · have hf' : fitsB 4 (tyAt ts x) (tyAt ts y) x y n = false := by simpa using hf
    refine (sv_4_fit ts A c C x y n m d _ _ At Ae _ ct _ ce w hT hC rfl rfl hm hm30 hf').mono ?_
    rintro E w' ⟨rfl, hk⟩
    have h0 : stmtB ts (4 - d) 4 x y n t e = false := by rw [heq, hf']; rfl
    rw [h0]
    exact ⟨m + 1, rfl, hk, fun h => by cases h⟩

theorem stmt_op_5 (ts : List Int) (A : Option Addr) (c C : Nat) (x y n m d : Int) (t e : Sts) (At Ae : Option Addr) (ct ce : Nat) (w : World) (hty : typesB ts = true) (hT : IntsV w 0 C ts A c) (hC : w.heap[C]? = some (.cells #[.slice A ts.length c, .int .i64 m] 125 (0, 0))) (hm : 0 ≤ m) (hm30 : m < 30) :
    Calls Try.prog 115 #[.pointer (some ⟨C, 0, none⟩), .agg #[.int .i64 5, .int .i64 x, .int .i64 y, .int .i64 n, .slice At t.len ct, .slice Ae e.len ce], .int .i64 d] w (ListPost C (.slice A ts.length c) w m (stmtB ts (4 - d) 5 x y n t e) (1 + t.size + e.size)) := by
  have hx := tyAt_bound hty x
  have hy := tyAt_bound hty y
  have heq : stmtB ts (4 - d) 5 x y n t e = (fitsB 5 (tyAt ts x) (tyAt ts y) x y n && sameB 5 5 x x y y n 0 t.len 0 e.len 0) := by
    rw [← simple_eq_5 (tyAt ts x) (tyAt ts y) x y n t.len e.len hx.1 hx.2 hy.1 hy.2]
    simp [stmtB]
  by_cases hf : fitsB 5 (tyAt ts x) (tyAt ts y) x y n = true
  · by_cases hs : sameB 5 5 x x y y n 0 t.len 0 e.len 0 = true
    · refine (sv_5_true ts A c C x y n m d _ _ At Ae _ ct _ ce w hT hC rfl rfl hm hm30 hf hs).mono ?_
      rintro E w' ⟨rfl, hk⟩
      have hl : t.len = 0 ∧ e.len = 0 := by
        simp only [sameB, decide_eq_true_eq] at hs
        exact ⟨hs.2.2.2.2.1, hs.2.2.2.2.2⟩
      have h1 := size_of_len hl.1
      have h2 := size_of_len hl.2
      refine ⟨m + 1, ret_bool ?_, hk, fun _ _ => by rw [h1, h2]; simp⟩
      rw [heq, hf, hs, h1, h2]
      simp
      omega
    · have hs' : sameB 5 5 x x y y n 0 t.len 0 e.len 0 = false := by simpa using hs
      refine (sv_5_same ts A c C x y n m d _ _ At Ae _ ct _ ce w hT hC rfl rfl hm hm30 hf hs').mono ?_
      rintro E w' ⟨rfl, hk⟩
      have h0 : stmtB ts (4 - d) 5 x y n t e = false := by rw [heq, hf, hs']; rfl
      rw [h0]
      exact ⟨m + 1, rfl, hk, fun h => by cases h⟩
  · have hf' : fitsB 5 (tyAt ts x) (tyAt ts y) x y n = false := by simpa using hf
    refine (sv_5_fit ts A c C x y n m d _ _ At Ae _ ct _ ce w hT hC rfl rfl hm hm30 hf').mono ?_
    rintro E w' ⟨rfl, hk⟩
    have h0 : stmtB ts (4 - d) 5 x y n t e = false := by rw [heq, hf']; rfl
    rw [h0]
    exact ⟨m + 1, rfl, hk, fun h => by cases h⟩

theorem stmt_op_6 (ts : List Int) (A : Option Addr) (c C : Nat) (x y n m d : Int) (t e : Sts) (At Ae : Option Addr) (ct ce : Nat) (w : World) (hty : typesB ts = true) (hT : IntsV w 0 C ts A c) (hC : w.heap[C]? = some (.cells #[.slice A ts.length c, .int .i64 m] 125 (0, 0))) (hm : 0 ≤ m) (hm30 : m < 30) :
    Calls Try.prog 115 #[.pointer (some ⟨C, 0, none⟩), .agg #[.int .i64 6, .int .i64 x, .int .i64 y, .int .i64 n, .slice At t.len ct, .slice Ae e.len ce], .int .i64 d] w (ListPost C (.slice A ts.length c) w m (stmtB ts (4 - d) 6 x y n t e) (1 + t.size + e.size)) := by
  have hx := tyAt_bound hty x
  have hy := tyAt_bound hty y
  have heq : stmtB ts (4 - d) 6 x y n t e = (fitsB 6 (tyAt ts x) (tyAt ts y) x y n && sameB 6 6 x x y y n 0 t.len 0 e.len 0) := by
    rw [← simple_eq_6 (tyAt ts x) (tyAt ts y) x y n t.len e.len hx.1 hx.2 hy.1 hy.2]
    simp [stmtB]
  by_cases hf : fitsB 6 (tyAt ts x) (tyAt ts y) x y n = true
  · by_cases hs : sameB 6 6 x x y y n 0 t.len 0 e.len 0 = true
    · refine (sv_6_true ts A c C x y n m d _ _ At Ae _ ct _ ce w hT hC rfl rfl hm hm30 hf hs).mono ?_
      rintro E w' ⟨rfl, hk⟩
      have hl : t.len = 0 ∧ e.len = 0 := by
        simp only [sameB, decide_eq_true_eq] at hs
        exact ⟨hs.2.2.2.2.1, hs.2.2.2.2.2⟩
      have h1 := size_of_len hl.1
      have h2 := size_of_len hl.2
      refine ⟨m + 1, ret_bool ?_, hk, fun _ _ => by rw [h1, h2]; simp⟩
      rw [heq, hf, hs, h1, h2]
      simp
      omega
    · have hs' : sameB 6 6 x x y y n 0 t.len 0 e.len 0 = false := by simpa using hs
      refine (sv_6_same ts A c C x y n m d _ _ At Ae _ ct _ ce w hT hC rfl rfl hm hm30 hf hs').mono ?_
      rintro E w' ⟨rfl, hk⟩
      have h0 : stmtB ts (4 - d) 6 x y n t e = false := by rw [heq, hf, hs']; rfl
      rw [h0]
      exact ⟨m + 1, rfl, hk, fun h => by cases h⟩
  · have hf' : fitsB 6 (tyAt ts x) (tyAt ts y) x y n = false := by simpa using hf
    refine (sv_6_fit ts A c C x y n m d _ _ At Ae _ ct _ ce w hT hC rfl rfl hm hm30 hf').mono ?_
    rintro E w' ⟨rfl, hk⟩
    have h0 : stmtB ts (4 - d) 6 x y n t e = false := by rw [heq, hf']; rfl
    rw [h0]
    exact ⟨m + 1, rfl, hk, fun h => by cases h⟩

theorem stmt_op_7 (ts : List Int) (A : Option Addr) (c C : Nat) (x y n m d : Int) (t e : Sts) (At Ae : Option Addr) (ct ce : Nat) (w : World) (hty : typesB ts = true) (hT : IntsV w 0 C ts A c) (hC : w.heap[C]? = some (.cells #[.slice A ts.length c, .int .i64 m] 125 (0, 0))) (hm : 0 ≤ m) (hm30 : m < 30) :
    Calls Try.prog 115 #[.pointer (some ⟨C, 0, none⟩), .agg #[.int .i64 7, .int .i64 x, .int .i64 y, .int .i64 n, .slice At t.len ct, .slice Ae e.len ce], .int .i64 d] w (ListPost C (.slice A ts.length c) w m (stmtB ts (4 - d) 7 x y n t e) (1 + t.size + e.size)) := by
  have hx := tyAt_bound hty x
  have hy := tyAt_bound hty y
  have heq : stmtB ts (4 - d) 7 x y n t e = (fitsB 7 (tyAt ts x) (tyAt ts y) x y n && sameB 7 7 x x y y n 0 t.len 0 e.len 0) := by
    rw [← simple_eq_7 (tyAt ts x) (tyAt ts y) x y n t.len e.len hx.1 hx.2 hy.1 hy.2]
    simp [stmtB]
  by_cases hf : fitsB 7 (tyAt ts x) (tyAt ts y) x y n = true
  · by_cases hs : sameB 7 7 x x y y n 0 t.len 0 e.len 0 = true
    · refine (sv_7_true ts A c C x y n m d _ _ At Ae _ ct _ ce w hT hC rfl rfl hm hm30 hf hs).mono ?_
      rintro E w' ⟨rfl, hk⟩
      have hl : t.len = 0 ∧ e.len = 0 := by
        simp only [sameB, decide_eq_true_eq] at hs
        exact ⟨hs.2.2.2.2.1, hs.2.2.2.2.2⟩
      have h1 := size_of_len hl.1
      have h2 := size_of_len hl.2
      refine ⟨m + 1, ret_bool ?_, hk, fun _ _ => by rw [h1, h2]; simp⟩
      rw [heq, hf, hs, h1, h2]
      simp
      omega
    · have hs' : sameB 7 7 x x y y n 0 t.len 0 e.len 0 = false := by simpa using hs
      refine (sv_7_same ts A c C x y n m d _ _ At Ae _ ct _ ce w hT hC rfl rfl hm hm30 hf hs').mono ?_
      rintro E w' ⟨rfl, hk⟩
      have h0 : stmtB ts (4 - d) 7 x y n t e = false := by rw [heq, hf, hs']; rfl
      rw [h0]
      exact ⟨m + 1, rfl, hk, fun h => by cases h⟩
  · have hf' : fitsB 7 (tyAt ts x) (tyAt ts y) x y n = false := by simpa using hf
    refine (sv_7_fit ts A c C x y n m d _ _ At Ae _ ct _ ce w hT hC rfl rfl hm hm30 hf').mono ?_
    rintro E w' ⟨rfl, hk⟩
    have h0 : stmtB ts (4 - d) 7 x y n t e = false := by rw [heq, hf']; rfl
    rw [h0]
    exact ⟨m + 1, rfl, hk, fun h => by cases h⟩

theorem stmt_op_8 (ts : List Int) (A : Option Addr) (c C : Nat) (x y n m d : Int) (t e : Sts) (At Ae : Option Addr) (ct ce : Nat) (w : World) (hty : typesB ts = true) (hT : IntsV w 0 C ts A c) (hC : w.heap[C]? = some (.cells #[.slice A ts.length c, .int .i64 m] 125 (0, 0))) (hm : 0 ≤ m) (hm30 : m < 30) :
    Calls Try.prog 115 #[.pointer (some ⟨C, 0, none⟩), .agg #[.int .i64 8, .int .i64 x, .int .i64 y, .int .i64 n, .slice At t.len ct, .slice Ae e.len ce], .int .i64 d] w (ListPost C (.slice A ts.length c) w m (stmtB ts (4 - d) 8 x y n t e) (1 + t.size + e.size)) := by
  have hx := tyAt_bound hty x
  have hy := tyAt_bound hty y
  have heq : stmtB ts (4 - d) 8 x y n t e = (fitsB 8 (tyAt ts x) (tyAt ts y) x y n && sameB 8 8 x x y 0 n 0 t.len 0 e.len 0) := by
    rw [← simple_eq_8 (tyAt ts x) (tyAt ts y) x y n t.len e.len hx.1 hx.2 hy.1 hy.2]
    simp [stmtB]
  by_cases hf : fitsB 8 (tyAt ts x) (tyAt ts y) x y n = true
  · by_cases hs : sameB 8 8 x x y 0 n 0 t.len 0 e.len 0 = true
    · refine (sv_8_true ts A c C x y n m d _ _ At Ae _ ct _ ce w hT hC rfl rfl hm hm30 hf hs).mono ?_
      rintro E w' ⟨rfl, hk⟩
      have hl : t.len = 0 ∧ e.len = 0 := by
        simp only [sameB, decide_eq_true_eq] at hs
        exact ⟨hs.2.2.2.2.1, hs.2.2.2.2.2⟩
      have h1 := size_of_len hl.1
      have h2 := size_of_len hl.2
      refine ⟨m + 1, ret_bool ?_, hk, fun _ _ => by rw [h1, h2]; simp⟩
      rw [heq, hf, hs, h1, h2]
      simp
      omega
    · have hs' : sameB 8 8 x x y 0 n 0 t.len 0 e.len 0 = false := by simpa using hs
      refine (sv_8_same ts A c C x y n m d _ _ At Ae _ ct _ ce w hT hC rfl rfl hm hm30 hf hs').mono ?_
      rintro E w' ⟨rfl, hk⟩
      have h0 : stmtB ts (4 - d) 8 x y n t e = false := by rw [heq, hf, hs']; rfl
      rw [h0]
      exact ⟨m + 1, rfl, hk, fun h => by cases h⟩
  · have hf' : fitsB 8 (tyAt ts x) (tyAt ts y) x y n = false := by simpa using hf
    refine (sv_8_fit ts A c C x y n m d _ _ At Ae _ ct _ ce w hT hC rfl rfl hm hm30 hf').mono ?_
    rintro E w' ⟨rfl, hk⟩
    have h0 : stmtB ts (4 - d) 8 x y n t e = false := by rw [heq, hf']; rfl
    rw [h0]
    exact ⟨m + 1, rfl, hk, fun h => by cases h⟩

theorem stmt_op_9 (ts : List Int) (A : Option Addr) (c C : Nat) (x y n m d : Int) (t e : Sts) (At Ae : Option Addr) (ct ce : Nat) (w : World) (hty : typesB ts = true) (hT : IntsV w 0 C ts A c) (hC : w.heap[C]? = some (.cells #[.slice A ts.length c, .int .i64 m] 125 (0, 0))) (hm : 0 ≤ m) (hm30 : m < 30) (hd0 : 0 ≤ d) (hd4 : d ≤ 4)
    (HT : ∀ (w' : World) (m' : Int), Chk C (.slice A ts.length c) w w' m' → 0 ≤ m' → m' ≤ 30 → d < 4 → Calls Try.prog 99 #[.pointer (some ⟨C, 0, none⟩), .slice At t.len ct, .int .i64 (d + 1)] w' (ListPost C (.slice A ts.length c) w' m' (bodyB ts (4 - (d + 1)) t) t.size))
    (HE : ∀ (w' : World) (m' : Int), Chk C (.slice A ts.length c) w w' m' → 0 ≤ m' → m' ≤ 30 → d < 4 → Calls Try.prog 99 #[.pointer (some ⟨C, 0, none⟩), .slice Ae e.len ce, .int .i64 (d + 1)] w' (ListPost C (.slice A ts.length c) w' m' (bodyB ts (4 - (d + 1)) e) e.size)) :
    Calls Try.prog 115 #[.pointer (some ⟨C, 0, none⟩), .agg #[.int .i64 9, .int .i64 x, .int .i64 y, .int .i64 n, .slice At t.len ct, .slice Ae e.len ce], .int .i64 d] w (ListPost C (.slice A ts.length c) w m (stmtB ts (4 - d) 9 x y n t e) (1 + t.size + e.size)) := by
  by_cases hs : sameB 9 9 x 0 y 0 n 0 t.len t.len e.len e.len = true
  · refine (sv_9_true ts A c C x y n m d _ _ At Ae _ ct _ ce w hT hC rfl rfl hm hm30 hs hd0 hd4 _ _ _ _ (heap_lt hC) HT HE).mono ?_
    rintro E w' ⟨m', rfl, hk, hm'⟩
    have heq : stmtB ts (4 - d) 9 x y n t e = (decide (d < 4) && (bodyB ts (4 - (d + 1)) t && bodyB ts (4 - (d + 1)) e)) := by
      simp only [sameB, decide_eq_true_eq] at hs
      have e1 : 4 - d - 1 = 4 - (d + 1) := by omega
      obtain ⟨_, hx0, hy0, hn0, _, _⟩ := hs
      unfold stmtB
      rw [if_neg (by omega), e1]
      congr 1
      rw [decide_eq_decide]
      exact ⟨fun h => by omega, fun h => ⟨by omega, hx0, hy0, hn0, fun h10 => absurd h10 (by omega)⟩⟩
    rw [← heq] at hm' ⊢
    exact ⟨m', rfl, hk, hm'⟩
  · have hs' : sameB 9 9 x 0 y 0 n 0 t.len t.len e.len e.len = false := by simpa using hs
    refine (sv_9_same ts A c C x y n m d _ _ At Ae _ ct _ ce w hT hC rfl rfl hm hm30 hs').mono ?_
    rintro E w' ⟨rfl, hk⟩
    have h0 : stmtB ts (4 - d) 9 x y n t e = false := by
      simp only [sameB, decide_eq_false_iff_not] at hs'
      simp only [stmtB]
      rw [if_neg (by omega)]
      rw [Bool.and_eq_false_iff]
      left
      simp only [decide_eq_false_iff_not]
      intro h
      exact hs' ⟨trivial, h.2.1, h.2.2.1, h.2.2.2.1, trivial, trivial⟩
    rw [h0]
    exact ⟨m + 1, rfl, hk, fun h => by cases h⟩

theorem stmt_op_10 (ts : List Int) (A : Option Addr) (c C : Nat) (x y n m d : Int) (t e : Sts) (At Ae : Option Addr) (ct ce : Nat) (w : World) (hty : typesB ts = true) (hT : IntsV w 0 C ts A c) (hC : w.heap[C]? = some (.cells #[.slice A ts.length c, .int .i64 m] 125 (0, 0))) (hm : 0 ≤ m) (hm30 : m < 30) (hd0 : 0 ≤ d) (hd4 : d ≤ 4)
    (HT : ∀ (w' : World) (m' : Int), Chk C (.slice A ts.length c) w w' m' → 0 ≤ m' → m' ≤ 30 → d < 4 → Calls Try.prog 99 #[.pointer (some ⟨C, 0, none⟩), .slice At t.len ct, .int .i64 (d + 1)] w' (ListPost C (.slice A ts.length c) w' m' (bodyB ts (4 - (d + 1)) t) t.size))
    (HE : ∀ (w' : World) (m' : Int), Chk C (.slice A ts.length c) w w' m' → 0 ≤ m' → m' ≤ 30 → d < 4 → Calls Try.prog 99 #[.pointer (some ⟨C, 0, none⟩), .slice Ae e.len ce, .int .i64 (d + 1)] w' (ListPost C (.slice A ts.length c) w' m' (bodyB ts (4 - (d + 1)) e) e.size)) :
    Calls Try.prog 115 #[.pointer (some ⟨C, 0, none⟩), .agg #[.int .i64 10, .int .i64 x, .int .i64 y, .int .i64 n, .slice At t.len ct, .slice Ae e.len ce], .int .i64 d] w (ListPost C (.slice A ts.length c) w m (stmtB ts (4 - d) 10 x y n t e) (1 + t.size + e.size)) := by
  by_cases hs : sameB 10 10 x 0 y 0 n 0 t.len t.len e.len 0 = true
  · refine (sv_10_true ts A c C x y n m d _ _ At Ae _ ct _ ce w hT hC rfl rfl hm hm30 hs hd0 hd4 _ _ _ _ (heap_lt hC) HT HE).mono ?_
    rintro E w' ⟨m', rfl, hk, hm'⟩
    have heq : stmtB ts (4 - d) 10 x y n t e = (decide (d < 4) && (bodyB ts (4 - (d + 1)) t && bodyB ts (4 - (d + 1)) e)) := by
      simp only [sameB, decide_eq_true_eq] at hs
      have e1 : 4 - d - 1 = 4 - (d + 1) := by omega
      obtain ⟨_, hx0, hy0, hn0, _, he0⟩ := hs
      unfold stmtB
      rw [if_neg (by omega), e1]
      congr 1
      rw [decide_eq_decide]
      exact ⟨fun h => by omega, fun h => ⟨by omega, hx0, hy0, hn0, fun _ => he0⟩⟩
    rw [← heq] at hm' ⊢
    exact ⟨m', rfl, hk, hm'⟩
  · have hs' : sameB 10 10 x 0 y 0 n 0 t.len t.len e.len 0 = false := by simpa using hs
    refine (sv_10_same ts A c C x y n m d _ _ At Ae _ ct _ ce w hT hC rfl rfl hm hm30 hs').mono ?_
    rintro E w' ⟨rfl, hk⟩
    have h0 : stmtB ts (4 - d) 10 x y n t e = false := by
      simp only [sameB, decide_eq_false_iff_not] at hs'
      simp only [stmtB]
      rw [if_neg (by omega)]
      rw [Bool.and_eq_false_iff]
      left
      simp only [decide_eq_false_iff_not]
      intro h
      exact hs' ⟨trivial, h.2.1, h.2.2.1, h.2.2.2.1, trivial, h.2.2.2.2 trivial⟩
    rw [h0]
    exact ⟨m + 1, rfl, hk, fun h => by cases h⟩

theorem stmtValid_any (ts : List Int) (A : Option Addr) (c C : Nat) (op x y n m d : Int) (t e : Sts) (At Ae : Option Addr) (ct ce : Nat) (w : World) (hty : typesB ts = true) (hT : IntsV w 0 C ts A c) (hC : w.heap[C]? = some (.cells #[.slice A ts.length c, .int .i64 m] 125 (0, 0))) (hm : 0 ≤ m) (hm30 : m ≤ 30) (hd0 : 0 ≤ d) (hd4 : d ≤ 4)
    (HT : ∀ (w' : World) (m' : Int), Chk C (.slice A ts.length c) w w' m' → 0 ≤ m' → m' ≤ 30 → d < 4 → Calls Try.prog 99 #[.pointer (some ⟨C, 0, none⟩), .slice At t.len ct, .int .i64 (d + 1)] w' (ListPost C (.slice A ts.length c) w' m' (bodyB ts (4 - (d + 1)) t) t.size))
    (HE : ∀ (w' : World) (m' : Int), Chk C (.slice A ts.length c) w w' m' → 0 ≤ m' → m' ≤ 30 → d < 4 → Calls Try.prog 99 #[.pointer (some ⟨C, 0, none⟩), .slice Ae e.len ce, .int .i64 (d + 1)] w' (ListPost C (.slice A ts.length c) w' m' (bodyB ts (4 - (d + 1)) e) e.size)) :
    Calls Try.prog 115 #[.pointer (some ⟨C, 0, none⟩), .agg #[.int .i64 op, .int .i64 x, .int .i64 y, .int .i64 n, .slice At t.len ct, .slice Ae e.len ce], .int .i64 d] w (ListPost C (.slice A ts.length c) w m (stmtB ts (4 - d) op x y n t e) (1 + t.size + e.size)) := by
  by_cases h30 : m = 30
  · subst h30
    refine (sv_full A c C ts.length op x y n d At Ae _ ct _ ce w hC).mono ?_
    rintro E w' ⟨rfl, hk⟩
    refine ⟨31, ret_bool ?_, hk, fun _ h => by omega⟩
    have : decide ((30 : Int) + (1 + t.size + e.size : Nat) ≤ 30) = false := by simp; omega
    rw [this, Bool.and_false]
  have hlt30 : m < 30 := by omega
  by_cases h1 : op = 1
  · subst h1; exact stmt_op_1 ts A c C x y n m d t e At Ae ct ce w hty hT hC hm hlt30
  by_cases h2 : op = 2
  · subst h2; exact stmt_op_2 ts A c C x y n m d t e At Ae ct ce w hty hT hC hm hlt30
  by_cases h3 : op = 3
  · subst h3; exact stmt_op_3 ts A c C x y n m d t e At Ae ct ce w hty hT hC hm hlt30
  by_cases h4 : op = 4
  · subst h4; exact stmt_op_4 ts A c C x y n m d t e At Ae ct ce w hty hT hC hm hlt30
  by_cases h5 : op = 5
  · subst h5; exact stmt_op_5 ts A c C x y n m d t e At Ae ct ce w hty hT hC hm hlt30
  by_cases h6 : op = 6
  · subst h6; exact stmt_op_6 ts A c C x y n m d t e At Ae ct ce w hty hT hC hm hlt30
  by_cases h7 : op = 7
  · subst h7; exact stmt_op_7 ts A c C x y n m d t e At Ae ct ce w hty hT hC hm hlt30
  by_cases h8 : op = 8
  · subst h8; exact stmt_op_8 ts A c C x y n m d t e At Ae ct ce w hty hT hC hm hlt30
  by_cases h9 : op = 9
  · subst h9; exact stmt_op_9 ts A c C x y n m d t e At Ae ct ce w hty hT hC hm hlt30 hd0 hd4 HT HE
  by_cases h10 : op = 10
  · subst h10; exact stmt_op_10 ts A c C x y n m d t e At Ae ct ce w hty hT hC hm hlt30 hd0 hd4 HT HE
  refine (sv_0 A c C ts.length op x y n d m At Ae _ ct _ ce w hC hm hlt30 (by simpa using h1) (by simpa using h2) (by simpa using h3) (by simpa using h4) (by simpa using h5) (by simpa using h6) (by simpa using h7) (by simpa using h8) (by simpa using h9) (by simpa using h10)).mono ?_
  rintro E w' ⟨rfl, hk⟩
  have h0 : stmtB ts (4 - d) op x y n t e = false := by
    have : simpleB op (tyAt ts x) (tyAt ts y) x y n = false := by simp [simpleB, h1, h2, h3, h4, h5, h6, h7, h8]
    simp [stmtB, h9, h10, this]
  rw [h0]
  exact ⟨m + 1, rfl, hk, fun h => by cases h⟩

end Go.Proofs.Ytcpmodkplikmcaa
