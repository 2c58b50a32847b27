/-
  The model's texts of simple statements.
-/
import Derived.Test.YtcaklhempmlpgaaText0
namespace Go.Proofs.Ytcaklhempmlpgaa
open Go.RowKit Go.Deep
set_option linter.unusedVariables false

theorem bytes_append (a b : List UInt8) : (⟨a.toArray⟩ : ByteArray) ++ ⟨b.toArray⟩ = ⟨(a ++ b).toArray⟩ := by
  apply ByteArray.ext
  simp

set_option maxRecDepth 100000 in
set_option maxHeartbeats 2000000 in
theorem specText_1 (x y n : Int) (v4 v5 : Value) (w : World) (hx : 0 ≤ x ∧ x ≤ 5) (hy : 0 ≤ y ∧ y ≤ 5) (hn : 0 ≤ n ∧ n ≤ 9) :
    Calls Try.prog 65 #[.agg #[.int .i64 1, .int .i64 x, .int .i64 y, .int .i64 n, v4, v5]] w fun e w' => e = .returned (.string ⟨([byteOf 97 x, 61, byteOf 48 n] : List UInt8).toArray⟩) ∧ Below w.heap.size w w' := by
  obtain ⟨hx0, hx5⟩ := hx
  obtain ⟨hy0, hy5⟩ := hy
  obtain ⟨hn0, hn9⟩ := hn
  have hb0 := (Below.refl w.heap.size w).alloc (Nat.le_refl _) (.cells #[.int .i64 1, .int .i64 x, .int .i64 y, .int .i64 n, v4, v5] 41)
  have hz : (w.alloc (.cells #[.int .i64 1, .int .i64 x, .int .i64 y, .int .i64 n, v4, v5] 41)).heap.size = w.heap.size + 1 := by simp
  have hB := heap_alloc_new w (.cells #[.int .i64 1, .int .i64 x, .int .i64 y, .int .i64 n, v4, v5] 41)
  have HB := Lib.hid hB
  have HZ := Lib.hid hz
  clear hB hz
  go_enter Try.func65, Try.ntmps65
  go_wp2_with fail
  refine (specLetter_any x _ hx0 hx5).mono ?_
  rintro E w1 ⟨rfl, hb1⟩
  rw [HZ.out] at hb1
  have hs1 := hb1.size
  rw [HZ.out] at hs1
  have hB1 := (hb1.block w.heap.size (by omega)).trans HB.out
  have c2 : w1.cell? ⟨w.heap.size, 2, none⟩ = some (.int .i64 y) := (cell_of_block hB1 2).trans rfl
  have hb : Below w.heap.size w w1 := hb0.trans (hb1.mono (by omega))
  clear hb1
  have HB1 := Lib.hid hB1
  clear hB1
  go_wp2_with fail
  refine (specLetter_any y _ hy0 hy5).mono ?_
  rintro E w2 ⟨rfl, hb2⟩
  have hs2 := hb2.size
  have hB2 := (hb2.block w.heap.size (by omega)).trans HB1.out
  have d0 : w2.cell? ⟨w.heap.size, 0, none⟩ = some (.int .i64 1) := (cell_of_block hB2 0).trans rfl
  have d3 : w2.cell? ⟨w.heap.size, 3, none⟩ = some (.int .i64 n) := (cell_of_block hB2 3).trans rfl
  have hbb : Below w.heap.size w w2 := hb.trans (hb2.mono (by omega))
  clear hb2 hB2 c2
  go_wp2_with fail
  refine (dec_any n _ hn0 hn9).mono ?_
  rintro E w3 ⟨rfl, hb3⟩
  have hbc : Below w.heap.size w w3 := hbb.trans (hb3.mono hbb.size)
  clear hb3
  go_wp2_with fail
  go_ret
  exact ⟨rfl, hbc⟩

set_option maxRecDepth 100000 in
set_option maxHeartbeats 2000000 in
theorem specText_2 (x y n : Int) (v4 v5 : Value) (w : World) (hx : 0 ≤ x ∧ x ≤ 5) (hy : 0 ≤ y ∧ y ≤ 5) (hn : 0 ≤ n ∧ n ≤ 9) :
    Calls Try.prog 65 #[.agg #[.int .i64 2, .int .i64 x, .int .i64 y, .int .i64 n, v4, v5]] w fun e w' => e = .returned (.string ⟨([byteOf 97 x, 61, 98, 111, 120, 32, byteOf 48 n] : List UInt8).toArray⟩) ∧ Below w.heap.size w w' := by
  obtain ⟨hx0, hx5⟩ := hx
  obtain ⟨hy0, hy5⟩ := hy
  obtain ⟨hn0, hn9⟩ := hn
  have hb0 := (Below.refl w.heap.size w).alloc (Nat.le_refl _) (.cells #[.int .i64 2, .int .i64 x, .int .i64 y, .int .i64 n, v4, v5] 41)
  have hz : (w.alloc (.cells #[.int .i64 2, .int .i64 x, .int .i64 y, .int .i64 n, v4, v5] 41)).heap.size = w.heap.size + 1 := by simp
  have hB := heap_alloc_new w (.cells #[.int .i64 2, .int .i64 x, .int .i64 y, .int .i64 n, v4, v5] 41)
  have HB := Lib.hid hB
  have HZ := Lib.hid hz
  clear hB hz
  go_enter Try.func65, Try.ntmps65
  go_wp2_with fail
  refine (specLetter_any x _ hx0 hx5).mono ?_
  rintro E w1 ⟨rfl, hb1⟩
  rw [HZ.out] at hb1
  have hs1 := hb1.size
  rw [HZ.out] at hs1
  have hB1 := (hb1.block w.heap.size (by omega)).trans HB.out
  have c2 : w1.cell? ⟨w.heap.size, 2, none⟩ = some (.int .i64 y) := (cell_of_block hB1 2).trans rfl
  have hb : Below w.heap.size w w1 := hb0.trans (hb1.mono (by omega))
  clear hb1
  have HB1 := Lib.hid hB1
  clear hB1
  go_wp2_with fail
  refine (specLetter_any y _ hy0 hy5).mono ?_
  rintro E w2 ⟨rfl, hb2⟩
  have hs2 := hb2.size
  have hB2 := (hb2.block w.heap.size (by omega)).trans HB1.out
  have d0 : w2.cell? ⟨w.heap.size, 0, none⟩ = some (.int .i64 2) := (cell_of_block hB2 0).trans rfl
  have d3 : w2.cell? ⟨w.heap.size, 3, none⟩ = some (.int .i64 n) := (cell_of_block hB2 3).trans rfl
  have hbb : Below w.heap.size w w2 := hb.trans (hb2.mono (by omega))
  clear hb2 hB2 c2
  go_wp2_with fail
  refine (dec_any n _ hn0 hn9).mono ?_
  rintro E w3 ⟨rfl, hb3⟩
  have hbc : Below w.heap.size w w3 := hbb.trans (hb3.mono hbb.size)
  clear hb3
  go_wp2_with fail
  go_ret
  exact ⟨rfl, hbc⟩

set_option maxRecDepth 100000 in
set_option maxHeartbeats 2000000 in
theorem specText_3 (x y n : Int) (v4 v5 : Value) (w : World) (hx : 0 ≤ x ∧ x ≤ 5) (hy : 0 ≤ y ∧ y ≤ 5) (hn : 0 ≤ n ∧ n ≤ 9) :
    Calls Try.prog 65 #[.agg #[.int .i64 3, .int .i64 x, .int .i64 y, .int .i64 n, v4, v5]] w fun e w' => e = .returned (.string ⟨([byteOf 97 x, 61, byteOf 97 y] : List UInt8).toArray⟩) ∧ Below w.heap.size w w' := by
  obtain ⟨hx0, hx5⟩ := hx
  obtain ⟨hy0, hy5⟩ := hy
  obtain ⟨hn0, hn9⟩ := hn
  have hb0 := (Below.refl w.heap.size w).alloc (Nat.le_refl _) (.cells #[.int .i64 3, .int .i64 x, .int .i64 y, .int .i64 n, v4, v5] 41)
  have hz : (w.alloc (.cells #[.int .i64 3, .int .i64 x, .int .i64 y, .int .i64 n, v4, v5] 41)).heap.size = w.heap.size + 1 := by simp
  have hB := heap_alloc_new w (.cells #[.int .i64 3, .int .i64 x, .int .i64 y, .int .i64 n, v4, v5] 41)
  have HB := Lib.hid hB
  have HZ := Lib.hid hz
  clear hB hz
  go_enter Try.func65, Try.ntmps65
  go_wp2_with fail
  refine (specLetter_any x _ hx0 hx5).mono ?_
  rintro E w1 ⟨rfl, hb1⟩
  rw [HZ.out] at hb1
  have hs1 := hb1.size
  rw [HZ.out] at hs1
  have hB1 := (hb1.block w.heap.size (by omega)).trans HB.out
  have c2 : w1.cell? ⟨w.heap.size, 2, none⟩ = some (.int .i64 y) := (cell_of_block hB1 2).trans rfl
  have hb : Below w.heap.size w w1 := hb0.trans (hb1.mono (by omega))
  clear hb1
  have HB1 := Lib.hid hB1
  clear hB1
  go_wp2_with fail
  refine (specLetter_any y _ hy0 hy5).mono ?_
  rintro E w2 ⟨rfl, hb2⟩
  have hs2 := hb2.size
  have hB2 := (hb2.block w.heap.size (by omega)).trans HB1.out
  have d0 : w2.cell? ⟨w.heap.size, 0, none⟩ = some (.int .i64 3) := (cell_of_block hB2 0).trans rfl
  have d3 : w2.cell? ⟨w.heap.size, 3, none⟩ = some (.int .i64 n) := (cell_of_block hB2 3).trans rfl
  have hbb : Below w.heap.size w w2 := hb.trans (hb2.mono (by omega))
  clear hb2 hB2 c2
  go_wp2_with fail
  go_ret
  exact ⟨rfl, hbb⟩

set_option maxRecDepth 100000 in
set_option maxHeartbeats 2000000 in
theorem specText_4 (x y n : Int) (v4 v5 : Value) (w : World) (hx : 0 ≤ x ∧ x ≤ 5) (hy : 0 ≤ y ∧ y ≤ 5) (hn : 0 ≤ n ∧ n ≤ 9) :
    Calls Try.prog 65 #[.agg #[.int .i64 4, .int .i64 x, .int .i64 y, .int .i64 n, v4, v5]] w fun e w' => e = .returned (.string ⟨([byteOf 97 x, 61, 38, byteOf 97 y] : List UInt8).toArray⟩) ∧ Below w.heap.size w w' := by
  obtain ⟨hx0, hx5⟩ := hx
  obtain ⟨hy0, hy5⟩ := hy
  obtain ⟨hn0, hn9⟩ := hn
  have hb0 := (Below.refl w.heap.size w).alloc (Nat.le_refl _) (.cells #[.int .i64 4, .int .i64 x, .int .i64 y, .int .i64 n, v4, v5] 41)
  have hz : (w.alloc (.cells #[.int .i64 4, .int .i64 x, .int .i64 y, .int .i64 n, v4, v5] 41)).heap.size = w.heap.size + 1 := by simp
  have hB := heap_alloc_new w (.cells #[.int .i64 4, .int .i64 x, .int .i64 y, .int .i64 n, v4, v5] 41)
  have HB := Lib.hid hB
  have HZ := Lib.hid hz
  clear hB hz
  go_enter Try.func65, Try.ntmps65
  go_wp2_with fail
  refine (specLetter_any x _ hx0 hx5).mono ?_
  rintro E w1 ⟨rfl, hb1⟩
  rw [HZ.out] at hb1
  have hs1 := hb1.size
  rw [HZ.out] at hs1
  have hB1 := (hb1.block w.heap.size (by omega)).trans HB.out
  have c2 : w1.cell? ⟨w.heap.size, 2, none⟩ = some (.int .i64 y) := (cell_of_block hB1 2).trans rfl
  have hb : Below w.heap.size w w1 := hb0.trans (hb1.mono (by omega))
  clear hb1
  have HB1 := Lib.hid hB1
  clear hB1
  go_wp2_with fail
  refine (specLetter_any y _ hy0 hy5).mono ?_
  rintro E w2 ⟨rfl, hb2⟩
  have hs2 := hb2.size
  have hB2 := (hb2.block w.heap.size (by omega)).trans HB1.out
  have d0 : w2.cell? ⟨w.heap.size, 0, none⟩ = some (.int .i64 4) := (cell_of_block hB2 0).trans rfl
  have d3 : w2.cell? ⟨w.heap.size, 3, none⟩ = some (.int .i64 n) := (cell_of_block hB2 3).trans rfl
  have hbb : Below w.heap.size w w2 := hb.trans (hb2.mono (by omega))
  clear hb2 hB2 c2
  go_wp2_with fail
  go_ret
  exact ⟨rfl, hbb⟩

set_option maxRecDepth 100000 in
set_option maxHeartbeats 2000000 in
theorem specText_5 (x y n : Int) (v4 v5 : Value) (w : World) (hx : 0 ≤ x ∧ x ≤ 5) (hy : 0 ≤ y ∧ y ≤ 5) (hn : 0 ≤ n ∧ n ≤ 9) :
    Calls Try.prog 65 #[.agg #[.int .i64 5, .int .i64 x, .int .i64 y, .int .i64 n, v4, v5]] w fun e w' => e = .returned (.string ⟨([byteOf 97 x, 61, 38, 109, 117, 116, 32, byteOf 97 y] : List UInt8).toArray⟩) ∧ Below w.heap.size w w' := by
  obtain ⟨hx0, hx5⟩ := hx
  obtain ⟨hy0, hy5⟩ := hy
  obtain ⟨hn0, hn9⟩ := hn
  have hb0 := (Below.refl w.heap.size w).alloc (Nat.le_refl _) (.cells #[.int .i64 5, .int .i64 x, .int .i64 y, .int .i64 n, v4, v5] 41)
  have hz : (w.alloc (.cells #[.int .i64 5, .int .i64 x, .int .i64 y, .int .i64 n, v4, v5] 41)).heap.size = w.heap.size + 1 := by simp
  have hB := heap_alloc_new w (.cells #[.int .i64 5, .int .i64 x, .int .i64 y, .int .i64 n, v4, v5] 41)
  have HB := Lib.hid hB
  have HZ := Lib.hid hz
  clear hB hz
  go_enter Try.func65, Try.ntmps65
  go_wp2_with fail
  refine (specLetter_any x _ hx0 hx5).mono ?_
  rintro E w1 ⟨rfl, hb1⟩
  rw [HZ.out] at hb1
  have hs1 := hb1.size
  rw [HZ.out] at hs1
  have hB1 := (hb1.block w.heap.size (by omega)).trans HB.out
  have c2 : w1.cell? ⟨w.heap.size, 2, none⟩ = some (.int .i64 y) := (cell_of_block hB1 2).trans rfl
  have hb : Below w.heap.size w w1 := hb0.trans (hb1.mono (by omega))
  clear hb1
  have HB1 := Lib.hid hB1
  clear hB1
  go_wp2_with fail
  refine (specLetter_any y _ hy0 hy5).mono ?_
  rintro E w2 ⟨rfl, hb2⟩
  have hs2 := hb2.size
  have hB2 := (hb2.block w.heap.size (by omega)).trans HB1.out
  have d0 : w2.cell? ⟨w.heap.size, 0, none⟩ = some (.int .i64 5) := (cell_of_block hB2 0).trans rfl
  have d3 : w2.cell? ⟨w.heap.size, 3, none⟩ = some (.int .i64 n) := (cell_of_block hB2 3).trans rfl
  have hbb : Below w.heap.size w w2 := hb.trans (hb2.mono (by omega))
  clear hb2 hB2 c2
  go_wp2_with fail
  go_ret
  exact ⟨rfl, hbb⟩

set_option maxRecDepth 100000 in
set_option maxHeartbeats 2000000 in
theorem specText_6 (x y n : Int) (v4 v5 : Value) (w : World) (hx : 0 ≤ x ∧ x ≤ 5) (hy : 0 ≤ y ∧ y ≤ 5) (hn : 0 ≤ n ∧ n ≤ 9) :
    Calls Try.prog 65 #[.agg #[.int .i64 6, .int .i64 x, .int .i64 y, .int .i64 n, v4, v5]] w fun e w' => e = .returned (.string ⟨([byteOf 97 x, 61, 42, byteOf 97 y] : List UInt8).toArray⟩) ∧ Below w.heap.size w w' := by
  obtain ⟨hx0, hx5⟩ := hx
  obtain ⟨hy0, hy5⟩ := hy
  obtain ⟨hn0, hn9⟩ := hn
  have hb0 := (Below.refl w.heap.size w).alloc (Nat.le_refl _) (.cells #[.int .i64 6, .int .i64 x, .int .i64 y, .int .i64 n, v4, v5] 41)
  have hz : (w.alloc (.cells #[.int .i64 6, .int .i64 x, .int .i64 y, .int .i64 n, v4, v5] 41)).heap.size = w.heap.size + 1 := by simp
  have hB := heap_alloc_new w (.cells #[.int .i64 6, .int .i64 x, .int .i64 y, .int .i64 n, v4, v5] 41)
  have HB := Lib.hid hB
  have HZ := Lib.hid hz
  clear hB hz
  go_enter Try.func65, Try.ntmps65
  go_wp2_with fail
  refine (specLetter_any x _ hx0 hx5).mono ?_
  rintro E w1 ⟨rfl, hb1⟩
  rw [HZ.out] at hb1
  have hs1 := hb1.size
  rw [HZ.out] at hs1
  have hB1 := (hb1.block w.heap.size (by omega)).trans HB.out
  have c2 : w1.cell? ⟨w.heap.size, 2, none⟩ = some (.int .i64 y) := (cell_of_block hB1 2).trans rfl
  have hb : Below w.heap.size w w1 := hb0.trans (hb1.mono (by omega))
  clear hb1
  have HB1 := Lib.hid hB1
  clear hB1
  go_wp2_with fail
  refine (specLetter_any y _ hy0 hy5).mono ?_
  rintro E w2 ⟨rfl, hb2⟩
  have hs2 := hb2.size
  have hB2 := (hb2.block w.heap.size (by omega)).trans HB1.out
  have d0 : w2.cell? ⟨w.heap.size, 0, none⟩ = some (.int .i64 6) := (cell_of_block hB2 0).trans rfl
  have d3 : w2.cell? ⟨w.heap.size, 3, none⟩ = some (.int .i64 n) := (cell_of_block hB2 3).trans rfl
  have hbb : Below w.heap.size w w2 := hb.trans (hb2.mono (by omega))
  clear hb2 hB2 c2
  go_wp2_with fail
  go_ret
  exact ⟨rfl, hbb⟩

set_option maxRecDepth 100000 in
set_option maxHeartbeats 2000000 in
theorem specText_7 (x y n : Int) (v4 v5 : Value) (w : World) (hx : 0 ≤ x ∧ x ≤ 5) (hy : 0 ≤ y ∧ y ≤ 5) (hn : 0 ≤ n ∧ n ≤ 9) :
    Calls Try.prog 65 #[.agg #[.int .i64 7, .int .i64 x, .int .i64 y, .int .i64 n, v4, v5]] w fun e w' => e = .returned (.string ⟨([42, byteOf 97 x, 61, byteOf 97 y] : List UInt8).toArray⟩) ∧ Below w.heap.size w w' := by
  obtain ⟨hx0, hx5⟩ := hx
  obtain ⟨hy0, hy5⟩ := hy
  obtain ⟨hn0, hn9⟩ := hn
  have hb0 := (Below.refl w.heap.size w).alloc (Nat.le_refl _) (.cells #[.int .i64 7, .int .i64 x, .int .i64 y, .int .i64 n, v4, v5] 41)
  have hz : (w.alloc (.cells #[.int .i64 7, .int .i64 x, .int .i64 y, .int .i64 n, v4, v5] 41)).heap.size = w.heap.size + 1 := by simp
  have hB := heap_alloc_new w (.cells #[.int .i64 7, .int .i64 x, .int .i64 y, .int .i64 n, v4, v5] 41)
  have HB := Lib.hid hB
  have HZ := Lib.hid hz
  clear hB hz
  go_enter Try.func65, Try.ntmps65
  go_wp2_with fail
  refine (specLetter_any x _ hx0 hx5).mono ?_
  rintro E w1 ⟨rfl, hb1⟩
  rw [HZ.out] at hb1
  have hs1 := hb1.size
  rw [HZ.out] at hs1
  have hB1 := (hb1.block w.heap.size (by omega)).trans HB.out
  have c2 : w1.cell? ⟨w.heap.size, 2, none⟩ = some (.int .i64 y) := (cell_of_block hB1 2).trans rfl
  have hb : Below w.heap.size w w1 := hb0.trans (hb1.mono (by omega))
  clear hb1
  have HB1 := Lib.hid hB1
  clear hB1
  go_wp2_with fail
  refine (specLetter_any y _ hy0 hy5).mono ?_
  rintro E w2 ⟨rfl, hb2⟩
  have hs2 := hb2.size
  have hB2 := (hb2.block w.heap.size (by omega)).trans HB1.out
  have d0 : w2.cell? ⟨w.heap.size, 0, none⟩ = some (.int .i64 7) := (cell_of_block hB2 0).trans rfl
  have d3 : w2.cell? ⟨w.heap.size, 3, none⟩ = some (.int .i64 n) := (cell_of_block hB2 3).trans rfl
  have hbb : Below w.heap.size w w2 := hb.trans (hb2.mono (by omega))
  clear hb2 hB2 c2
  go_wp2_with fail
  go_ret
  exact ⟨rfl, hbb⟩

set_option maxRecDepth 100000 in
set_option maxHeartbeats 2000000 in
theorem specText_8 (x y n : Int) (v4 v5 : Value) (w : World) (hx : 0 ≤ x ∧ x ≤ 5) (hy : 0 ≤ y ∧ y ≤ 5) (hn : 0 ≤ n ∧ n ≤ 9) :
    Calls Try.prog 65 #[.agg #[.int .i64 8, .int .i64 x, .int .i64 y, .int .i64 n, v4, v5]] w fun e w' => e = .returned (.string ⟨([100, 114, 111, 112, 32, byteOf 97 x] : List UInt8).toArray⟩) ∧ Below w.heap.size w w' := by
  obtain ⟨hx0, hx5⟩ := hx
  obtain ⟨hy0, hy5⟩ := hy
  obtain ⟨hn0, hn9⟩ := hn
  have hb0 := (Below.refl w.heap.size w).alloc (Nat.le_refl _) (.cells #[.int .i64 8, .int .i64 x, .int .i64 y, .int .i64 n, v4, v5] 41)
  have hz : (w.alloc (.cells #[.int .i64 8, .int .i64 x, .int .i64 y, .int .i64 n, v4, v5] 41)).heap.size = w.heap.size + 1 := by simp
  have hB := heap_alloc_new w (.cells #[.int .i64 8, .int .i64 x, .int .i64 y, .int .i64 n, v4, v5] 41)
  have HB := Lib.hid hB
  have HZ := Lib.hid hz
  clear hB hz
  go_enter Try.func65, Try.ntmps65
  go_wp2_with fail
  refine (specLetter_any x _ hx0 hx5).mono ?_
  rintro E w1 ⟨rfl, hb1⟩
  rw [HZ.out] at hb1
  have hs1 := hb1.size
  rw [HZ.out] at hs1
  have hB1 := (hb1.block w.heap.size (by omega)).trans HB.out
  have c2 : w1.cell? ⟨w.heap.size, 2, none⟩ = some (.int .i64 y) := (cell_of_block hB1 2).trans rfl
  have hb : Below w.heap.size w w1 := hb0.trans (hb1.mono (by omega))
  clear hb1
  have HB1 := Lib.hid hB1
  clear hB1
  go_wp2_with fail
  refine (specLetter_any y _ hy0 hy5).mono ?_
  rintro E w2 ⟨rfl, hb2⟩
  have hs2 := hb2.size
  have hB2 := (hb2.block w.heap.size (by omega)).trans HB1.out
  have d0 : w2.cell? ⟨w.heap.size, 0, none⟩ = some (.int .i64 8) := (cell_of_block hB2 0).trans rfl
  have d3 : w2.cell? ⟨w.heap.size, 3, none⟩ = some (.int .i64 n) := (cell_of_block hB2 3).trans rfl
  have hbb : Below w.heap.size w w2 := hb.trans (hb2.mono (by omega))
  clear hb2 hB2 c2
  go_wp2_with fail
  go_ret
  exact ⟨rfl, hbb⟩

end Go.Proofs.Ytcaklhempmlpgaa
