/-
  The letters of variables and the digits of numbers, in the program and in its model.
  The model's texts of simple statements.
  Texts of statements as plain data; the model's texts of lists.
  The model's text of a program.
  The model's FormatProgram.
-/
import Derived.Test.YtlddoookojjleaaGreatDoorRows
import Derived.Test.YtlddoookojjleaaGreatDoorZCopy0
import Derived.WalkKit
import Derived.WalkSpells
import Derived.Lib.Hide
import Derived.Test.YtlddoookojjleaaGreatDoorZBase
import Derived.Deep.RegionHeld3
import Derived.Test.YtlddoookojjleaaGreatDoorZSpecX
namespace Go.Proofs.YtlddoookojjleaaGreatDoor
open Go.RowKit Go.Deep
set_option linter.unusedVariables false

/-- The byte a number above a first one. -/
def byteOf (first : Nat) (v : Int) : UInt8 := UInt8.ofNat (first + v.toNat)

/-- A string made of one new byte. -/
theorem conv_new (W0 : World) (x : Int) (b : UInt8) (hb : (b.toNat : Int) = x) : (convert 22 9 (.slice (some ⟨W0.heap.size, 0, none⟩) 1 1)).run Tryz.prog (W0.alloc (.cells #[.int .u8 x] 5)) = .ok (.string ⟨#[b]⟩) (W0.alloc (.cells #[.int .u8 x] 5)) := by
  refine run_convert_bytes_back _ _ _ 5 ⟨W0.heap.size, 0, none⟩ 1 [b] Tryz.underlying22 Tryz.underlying5 Tryz.underlying9 (fun j hj => ?_)
  obtain rfl : j = 0 := by simpa using hj
  have := heap_alloc_new W0 (.cells #[.int .u8 x] 5)
  have h2 := cell_of_block this 0
  simp [Addr.add, hb, h2]

set_option maxRecDepth 100000 in
set_option maxHeartbeats 2000000 in
theorem specLetter_any (v : Int) (w : World) (h0 : 0 ≤ v) (h1 : v ≤ 5) : Calls Tryz.prog 72 #[.int .i64 v] w fun e w' => e = .returned (.string ⟨#[byteOf 97 v]⟩) ∧ Below w.heap.size w w' := by
  by_cases h0 : v = 0
  · subst h0
    have kc := fun W0 => conv_new W0 97 97 rfl
    go_enter Tryz.func72, Tryz.ntmps72
    go_wp2
    go_ret
    exact ⟨rfl, by repeat (first | exact Below.refl _ _ | refine Below.setCell ?_ (by simp) _ | refine Below.alloc ?_ (by simp) _)⟩
  by_cases h1 : v = 1
  · subst h1
    have kc := fun W0 => conv_new W0 98 98 rfl
    go_enter Tryz.func72, Tryz.ntmps72
    go_wp2
    go_ret
    exact ⟨rfl, by repeat (first | exact Below.refl _ _ | refine Below.setCell ?_ (by simp) _ | refine Below.alloc ?_ (by simp) _)⟩
  by_cases h2 : v = 2
  · subst h2
    have kc := fun W0 => conv_new W0 99 99 rfl
    go_enter Tryz.func72, Tryz.ntmps72
    go_wp2
    go_ret
    exact ⟨rfl, by repeat (first | exact Below.refl _ _ | refine Below.setCell ?_ (by simp) _ | refine Below.alloc ?_ (by simp) _)⟩
  by_cases h3 : v = 3
  · subst h3
    have kc := fun W0 => conv_new W0 100 100 rfl
    go_enter Tryz.func72, Tryz.ntmps72
    go_wp2
    go_ret
    exact ⟨rfl, by repeat (first | exact Below.refl _ _ | refine Below.setCell ?_ (by simp) _ | refine Below.alloc ?_ (by simp) _)⟩
  by_cases h4 : v = 4
  · subst h4
    have kc := fun W0 => conv_new W0 101 101 rfl
    go_enter Tryz.func72, Tryz.ntmps72
    go_wp2
    go_ret
    exact ⟨rfl, by repeat (first | exact Below.refl _ _ | refine Below.setCell ?_ (by simp) _ | refine Below.alloc ?_ (by simp) _)⟩
  obtain rfl : v = 5 := by omega
  have kc := fun W0 => conv_new W0 102 102 rfl
  go_enter Tryz.func72, Tryz.ntmps72
  go_wp2
  go_ret
  exact ⟨rfl, by repeat (first | exact Below.refl _ _ | refine Below.setCell ?_ (by simp) _ | refine Below.alloc ?_ (by simp) _)⟩

set_option maxRecDepth 100000 in
set_option maxHeartbeats 2000000 in
theorem dec_any (v : Int) (w : World) (h0 : 0 ≤ v) (h1 : v ≤ 9) : Calls Tryz.prog 73 #[.int .i64 v] w fun e w' => e = .returned (.string ⟨#[byteOf 48 v]⟩) ∧ Below w.heap.size w w' := by
  by_cases h0 : v = 0
  · subst h0
    have kc := fun W0 => conv_new W0 48 48 rfl
    go_enter Tryz.func73, Tryz.ntmps73
    go_wp2
    refine wp_loop_rounds 1 ?_
    rw [rounds_succ]
    go_wp2
    go_ret
    exact ⟨rfl, by repeat (first | exact Below.refl _ _ | refine Below.setCell ?_ (by simp) _ | refine Below.alloc ?_ (by simp) _)⟩
  by_cases h1 : v = 1
  · subst h1
    have kc := fun W0 => conv_new W0 49 49 rfl
    go_enter Tryz.func73, Tryz.ntmps73
    go_wp2
    refine wp_loop_rounds 1 ?_
    rw [rounds_succ]
    go_wp2
    go_ret
    exact ⟨rfl, by repeat (first | exact Below.refl _ _ | refine Below.setCell ?_ (by simp) _ | refine Below.alloc ?_ (by simp) _)⟩
  by_cases h2 : v = 2
  · subst h2
    have kc := fun W0 => conv_new W0 50 50 rfl
    go_enter Tryz.func73, Tryz.ntmps73
    go_wp2
    refine wp_loop_rounds 1 ?_
    rw [rounds_succ]
    go_wp2
    go_ret
    exact ⟨rfl, by repeat (first | exact Below.refl _ _ | refine Below.setCell ?_ (by simp) _ | refine Below.alloc ?_ (by simp) _)⟩
  by_cases h3 : v = 3
  · subst h3
    have kc := fun W0 => conv_new W0 51 51 rfl
    go_enter Tryz.func73, Tryz.ntmps73
    go_wp2
    refine wp_loop_rounds 1 ?_
    rw [rounds_succ]
    go_wp2
    go_ret
    exact ⟨rfl, by repeat (first | exact Below.refl _ _ | refine Below.setCell ?_ (by simp) _ | refine Below.alloc ?_ (by simp) _)⟩
  by_cases h4 : v = 4
  · subst h4
    have kc := fun W0 => conv_new W0 52 52 rfl
    go_enter Tryz.func73, Tryz.ntmps73
    go_wp2
    refine wp_loop_rounds 1 ?_
    rw [rounds_succ]
    go_wp2
    go_ret
    exact ⟨rfl, by repeat (first | exact Below.refl _ _ | refine Below.setCell ?_ (by simp) _ | refine Below.alloc ?_ (by simp) _)⟩
  by_cases h5 : v = 5
  · subst h5
    have kc := fun W0 => conv_new W0 53 53 rfl
    go_enter Tryz.func73, Tryz.ntmps73
    go_wp2
    refine wp_loop_rounds 1 ?_
    rw [rounds_succ]
    go_wp2
    go_ret
    exact ⟨rfl, by repeat (first | exact Below.refl _ _ | refine Below.setCell ?_ (by simp) _ | refine Below.alloc ?_ (by simp) _)⟩
  by_cases h6 : v = 6
  · subst h6
    have kc := fun W0 => conv_new W0 54 54 rfl
    go_enter Tryz.func73, Tryz.ntmps73
    go_wp2
    refine wp_loop_rounds 1 ?_
    rw [rounds_succ]
    go_wp2
    go_ret
    exact ⟨rfl, by repeat (first | exact Below.refl _ _ | refine Below.setCell ?_ (by simp) _ | refine Below.alloc ?_ (by simp) _)⟩
  by_cases h7 : v = 7
  · subst h7
    have kc := fun W0 => conv_new W0 55 55 rfl
    go_enter Tryz.func73, Tryz.ntmps73
    go_wp2
    refine wp_loop_rounds 1 ?_
    rw [rounds_succ]
    go_wp2
    go_ret
    exact ⟨rfl, by repeat (first | exact Below.refl _ _ | refine Below.setCell ?_ (by simp) _ | refine Below.alloc ?_ (by simp) _)⟩
  by_cases h8 : v = 8
  · subst h8
    have kc := fun W0 => conv_new W0 56 56 rfl
    go_enter Tryz.func73, Tryz.ntmps73
    go_wp2
    refine wp_loop_rounds 1 ?_
    rw [rounds_succ]
    go_wp2
    go_ret
    exact ⟨rfl, by repeat (first | exact Below.refl _ _ | refine Below.setCell ?_ (by simp) _ | refine Below.alloc ?_ (by simp) _)⟩
  obtain rfl : v = 9 := by omega
  have kc := fun W0 => conv_new W0 57 57 rfl
  go_enter Tryz.func73, Tryz.ntmps73
  go_wp2
  refine wp_loop_rounds 1 ?_
  rw [rounds_succ]
  go_wp2
  go_ret
  exact ⟨rfl, by repeat (first | exact Below.refl _ _ | refine Below.setCell ?_ (by simp) _ | refine Below.alloc ?_ (by simp) _)⟩

end Go.Proofs.YtlddoookojjleaaGreatDoor

namespace Go.Proofs.YtlddoookojjleaaGreatDoor
open Go.RowKit Go.Deep
set_option linter.unusedVariables false

theorem bytes_append (a b : List UInt8) : (⟨a.toArray⟩ : ByteArray) ++ ⟨b.toArray⟩ = ⟨(a ++ b).toArray⟩ := by
  apply ByteArray.ext
  simp

set_option maxRecDepth 100000 in
set_option maxHeartbeats 2000000 in
theorem specText_1 (x y n : Int) (v4 v5 : Value) (w : World) (hx : 0 ≤ x ∧ x ≤ 5) (hy : 0 ≤ y ∧ y ≤ 5) (hn : 0 ≤ n ∧ n ≤ 9) :
    Calls Tryz.prog 71 #[.agg #[.int .i64 1, .int .i64 x, .int .i64 y, .int .i64 n, v4, v5]] w fun e w' => e = .returned (.string ⟨([byteOf 97 x, 61, byteOf 48 n] : List UInt8).toArray⟩) ∧ Below w.heap.size w w' := by
  obtain ⟨hx0, hx5⟩ := hx
  obtain ⟨hy0, hy5⟩ := hy
  obtain ⟨hn0, hn9⟩ := hn
  have hb0 := (Below.refl w.heap.size w).alloc (Nat.le_refl _) (.cells #[.int .i64 1, .int .i64 x, .int .i64 y, .int .i64 n, v4, v5] 86)
  have hz : (w.alloc (.cells #[.int .i64 1, .int .i64 x, .int .i64 y, .int .i64 n, v4, v5] 86)).heap.size = w.heap.size + 1 := by simp
  have hB := heap_alloc_new w (.cells #[.int .i64 1, .int .i64 x, .int .i64 y, .int .i64 n, v4, v5] 86)
  have HB := Lib.hid hB
  have HZ := Lib.hid hz
  clear hB hz
  go_enter Tryz.func71, Tryz.ntmps71
  go_wp2_with fail
  refine (specLetter_any x _ hx0 hx5).mono ?_
  rintro E w1 ⟨rfl, hb1⟩
  rw [HZ.out] at hb1
  have hs1 := hb1.size
  rw [HZ.out] at hs1
  have hB1 := (hb1.block w.heap.size (by omega)).trans HB.out
  have c2 : w1.cell? ⟨w.heap.size, 2, none⟩ = some (.int .i64 y) := (cell_of_block hB1 2).trans rfl
  have hb : Below w.heap.size w w1 := hb0.trans (hb1.mono (by omega))
  clear hb1
  have HB1 := Lib.hid hB1
  clear hB1
  go_wp2_with fail
  refine (specLetter_any y _ hy0 hy5).mono ?_
  rintro E w2 ⟨rfl, hb2⟩
  have hs2 := hb2.size
  have hB2 := (hb2.block w.heap.size (by omega)).trans HB1.out
  have d0 : w2.cell? ⟨w.heap.size, 0, none⟩ = some (.int .i64 1) := (cell_of_block hB2 0).trans rfl
  have d3 : w2.cell? ⟨w.heap.size, 3, none⟩ = some (.int .i64 n) := (cell_of_block hB2 3).trans rfl
  have hbb : Below w.heap.size w w2 := hb.trans (hb2.mono (by omega))
  clear hb2 hB2 c2
  go_wp2_with fail
  refine (dec_any n _ hn0 hn9).mono ?_
  rintro E w3 ⟨rfl, hb3⟩
  have hbc : Below w.heap.size w w3 := hbb.trans (hb3.mono hbb.size)
  clear hb3
  go_wp2_with fail
  go_ret
  exact ⟨rfl, hbc⟩

set_option maxRecDepth 100000 in
set_option maxHeartbeats 2000000 in
theorem specText_2 (x y n : Int) (v4 v5 : Value) (w : World) (hx : 0 ≤ x ∧ x ≤ 5) (hy : 0 ≤ y ∧ y ≤ 5) (hn : 0 ≤ n ∧ n ≤ 9) :
    Calls Tryz.prog 71 #[.agg #[.int .i64 2, .int .i64 x, .int .i64 y, .int .i64 n, v4, v5]] w fun e w' => e = .returned (.string ⟨([byteOf 97 x, 61, 98, 111, 120, 32, byteOf 48 n] : List UInt8).toArray⟩) ∧ Below w.heap.size w w' := by
  obtain ⟨hx0, hx5⟩ := hx
  obtain ⟨hy0, hy5⟩ := hy
  obtain ⟨hn0, hn9⟩ := hn
  have hb0 := (Below.refl w.heap.size w).alloc (Nat.le_refl _) (.cells #[.int .i64 2, .int .i64 x, .int .i64 y, .int .i64 n, v4, v5] 86)
  have hz : (w.alloc (.cells #[.int .i64 2, .int .i64 x, .int .i64 y, .int .i64 n, v4, v5] 86)).heap.size = w.heap.size + 1 := by simp
  have hB := heap_alloc_new w (.cells #[.int .i64 2, .int .i64 x, .int .i64 y, .int .i64 n, v4, v5] 86)
  have HB := Lib.hid hB
  have HZ := Lib.hid hz
  clear hB hz
  go_enter Tryz.func71, Tryz.ntmps71
  go_wp2_with fail
  refine (specLetter_any x _ hx0 hx5).mono ?_
  rintro E w1 ⟨rfl, hb1⟩
  rw [HZ.out] at hb1
  have hs1 := hb1.size
  rw [HZ.out] at hs1
  have hB1 := (hb1.block w.heap.size (by omega)).trans HB.out
  have c2 : w1.cell? ⟨w.heap.size, 2, none⟩ = some (.int .i64 y) := (cell_of_block hB1 2).trans rfl
  have hb : Below w.heap.size w w1 := hb0.trans (hb1.mono (by omega))
  clear hb1
  have HB1 := Lib.hid hB1
  clear hB1
  go_wp2_with fail
  refine (specLetter_any y _ hy0 hy5).mono ?_
  rintro E w2 ⟨rfl, hb2⟩
  have hs2 := hb2.size
  have hB2 := (hb2.block w.heap.size (by omega)).trans HB1.out
  have d0 : w2.cell? ⟨w.heap.size, 0, none⟩ = some (.int .i64 2) := (cell_of_block hB2 0).trans rfl
  have d3 : w2.cell? ⟨w.heap.size, 3, none⟩ = some (.int .i64 n) := (cell_of_block hB2 3).trans rfl
  have hbb : Below w.heap.size w w2 := hb.trans (hb2.mono (by omega))
  clear hb2 hB2 c2
  go_wp2_with fail
  refine (dec_any n _ hn0 hn9).mono ?_
  rintro E w3 ⟨rfl, hb3⟩
  have hbc : Below w.heap.size w w3 := hbb.trans (hb3.mono hbb.size)
  clear hb3
  go_wp2_with fail
  go_ret
  exact ⟨rfl, hbc⟩

set_option maxRecDepth 100000 in
set_option maxHeartbeats 2000000 in
theorem specText_3 (x y n : Int) (v4 v5 : Value) (w : World) (hx : 0 ≤ x ∧ x ≤ 5) (hy : 0 ≤ y ∧ y ≤ 5) (hn : 0 ≤ n ∧ n ≤ 9) :
    Calls Tryz.prog 71 #[.agg #[.int .i64 3, .int .i64 x, .int .i64 y, .int .i64 n, v4, v5]] w fun e w' => e = .returned (.string ⟨([byteOf 97 x, 61, byteOf 97 y] : List UInt8).toArray⟩) ∧ Below w.heap.size w w' := by
  obtain ⟨hx0, hx5⟩ := hx
  obtain ⟨hy0, hy5⟩ := hy
  obtain ⟨hn0, hn9⟩ := hn
  have hb0 := (Below.refl w.heap.size w).alloc (Nat.le_refl _) (.cells #[.int .i64 3, .int .i64 x, .int .i64 y, .int .i64 n, v4, v5] 86)
  have hz : (w.alloc (.cells #[.int .i64 3, .int .i64 x, .int .i64 y, .int .i64 n, v4, v5] 86)).heap.size = w.heap.size + 1 := by simp
  have hB := heap_alloc_new w (.cells #[.int .i64 3, .int .i64 x, .int .i64 y, .int .i64 n, v4, v5] 86)
  have HB := Lib.hid hB
  have HZ := Lib.hid hz
  clear hB hz
  go_enter Tryz.func71, Tryz.ntmps71
  go_wp2_with fail
  refine (specLetter_any x _ hx0 hx5).mono ?_
  rintro E w1 ⟨rfl, hb1⟩
  rw [HZ.out] at hb1
  have hs1 := hb1.size
  rw [HZ.out] at hs1
  have hB1 := (hb1.block w.heap.size (by omega)).trans HB.out
  have c2 : w1.cell? ⟨w.heap.size, 2, none⟩ = some (.int .i64 y) := (cell_of_block hB1 2).trans rfl
  have hb : Below w.heap.size w w1 := hb0.trans (hb1.mono (by omega))
  clear hb1
  have HB1 := Lib.hid hB1
  clear hB1
  go_wp2_with fail
  refine (specLetter_any y _ hy0 hy5).mono ?_
  rintro E w2 ⟨rfl, hb2⟩
  have hs2 := hb2.size
  have hB2 := (hb2.block w.heap.size (by omega)).trans HB1.out
  have d0 : w2.cell? ⟨w.heap.size, 0, none⟩ = some (.int .i64 3) := (cell_of_block hB2 0).trans rfl
  have d3 : w2.cell? ⟨w.heap.size, 3, none⟩ = some (.int .i64 n) := (cell_of_block hB2 3).trans rfl
  have hbb : Below w.heap.size w w2 := hb.trans (hb2.mono (by omega))
  clear hb2 hB2 c2
  go_wp2_with fail
  go_ret
  exact ⟨rfl, hbb⟩

set_option maxRecDepth 100000 in
set_option maxHeartbeats 2000000 in
theorem specText_4 (x y n : Int) (v4 v5 : Value) (w : World) (hx : 0 ≤ x ∧ x ≤ 5) (hy : 0 ≤ y ∧ y ≤ 5) (hn : 0 ≤ n ∧ n ≤ 9) :
    Calls Tryz.prog 71 #[.agg #[.int .i64 4, .int .i64 x, .int .i64 y, .int .i64 n, v4, v5]] w fun e w' => e = .returned (.string ⟨([byteOf 97 x, 61, 38, byteOf 97 y] : List UInt8).toArray⟩) ∧ Below w.heap.size w w' := by
  obtain ⟨hx0, hx5⟩ := hx
  obtain ⟨hy0, hy5⟩ := hy
  obtain ⟨hn0, hn9⟩ := hn
  have hb0 := (Below.refl w.heap.size w).alloc (Nat.le_refl _) (.cells #[.int .i64 4, .int .i64 x, .int .i64 y, .int .i64 n, v4, v5] 86)
  have hz : (w.alloc (.cells #[.int .i64 4, .int .i64 x, .int .i64 y, .int .i64 n, v4, v5] 86)).heap.size = w.heap.size + 1 := by simp
  have hB := heap_alloc_new w (.cells #[.int .i64 4, .int .i64 x, .int .i64 y, .int .i64 n, v4, v5] 86)
  have HB := Lib.hid hB
  have HZ := Lib.hid hz
  clear hB hz
  go_enter Tryz.func71, Tryz.ntmps71
  go_wp2_with fail
  refine (specLetter_any x _ hx0 hx5).mono ?_
  rintro E w1 ⟨rfl, hb1⟩
  rw [HZ.out] at hb1
  have hs1 := hb1.size
  rw [HZ.out] at hs1
  have hB1 := (hb1.block w.heap.size (by omega)).trans HB.out
  have c2 : w1.cell? ⟨w.heap.size, 2, none⟩ = some (.int .i64 y) := (cell_of_block hB1 2).trans rfl
  have hb : Below w.heap.size w w1 := hb0.trans (hb1.mono (by omega))
  clear hb1
  have HB1 := Lib.hid hB1
  clear hB1
  go_wp2_with fail
  refine (specLetter_any y _ hy0 hy5).mono ?_
  rintro E w2 ⟨rfl, hb2⟩
  have hs2 := hb2.size
  have hB2 := (hb2.block w.heap.size (by omega)).trans HB1.out
  have d0 : w2.cell? ⟨w.heap.size, 0, none⟩ = some (.int .i64 4) := (cell_of_block hB2 0).trans rfl
  have d3 : w2.cell? ⟨w.heap.size, 3, none⟩ = some (.int .i64 n) := (cell_of_block hB2 3).trans rfl
  have hbb : Below w.heap.size w w2 := hb.trans (hb2.mono (by omega))
  clear hb2 hB2 c2
  go_wp2_with fail
  go_ret
  exact ⟨rfl, hbb⟩

set_option maxRecDepth 100000 in
set_option maxHeartbeats 2000000 in
theorem specText_5 (x y n : Int) (v4 v5 : Value) (w : World) (hx : 0 ≤ x ∧ x ≤ 5) (hy : 0 ≤ y ∧ y ≤ 5) (hn : 0 ≤ n ∧ n ≤ 9) :
    Calls Tryz.prog 71 #[.agg #[.int .i64 5, .int .i64 x, .int .i64 y, .int .i64 n, v4, v5]] w fun e w' => e = .returned (.string ⟨([byteOf 97 x, 61, 38, 109, 117, 116, 32, byteOf 97 y] : List UInt8).toArray⟩) ∧ Below w.heap.size w w' := by
  obtain ⟨hx0, hx5⟩ := hx
  obtain ⟨hy0, hy5⟩ := hy
  obtain ⟨hn0, hn9⟩ := hn
  have hb0 := (Below.refl w.heap.size w).alloc (Nat.le_refl _) (.cells #[.int .i64 5, .int .i64 x, .int .i64 y, .int .i64 n, v4, v5] 86)
  have hz : (w.alloc (.cells #[.int .i64 5, .int .i64 x, .int .i64 y, .int .i64 n, v4, v5] 86)).heap.size = w.heap.size + 1 := by simp
  have hB := heap_alloc_new w (.cells #[.int .i64 5, .int .i64 x, .int .i64 y, .int .i64 n, v4, v5] 86)
  have HB := Lib.hid hB
  have HZ := Lib.hid hz
  clear hB hz
  go_enter Tryz.func71, Tryz.ntmps71
  go_wp2_with fail
  refine (specLetter_any x _ hx0 hx5).mono ?_
  rintro E w1 ⟨rfl, hb1⟩
  rw [HZ.out] at hb1
  have hs1 := hb1.size
  rw [HZ.out] at hs1
  have hB1 := (hb1.block w.heap.size (by omega)).trans HB.out
  have c2 : w1.cell? ⟨w.heap.size, 2, none⟩ = some (.int .i64 y) := (cell_of_block hB1 2).trans rfl
  have hb : Below w.heap.size w w1 := hb0.trans (hb1.mono (by omega))
  clear hb1
  have HB1 := Lib.hid hB1
  clear hB1
  go_wp2_with fail
  refine (specLetter_any y _ hy0 hy5).mono ?_
  rintro E w2 ⟨rfl, hb2⟩
  have hs2 := hb2.size
  have hB2 := (hb2.block w.heap.size (by omega)).trans HB1.out
  have d0 : w2.cell? ⟨w.heap.size, 0, none⟩ = some (.int .i64 5) := (cell_of_block hB2 0).trans rfl
  have d3 : w2.cell? ⟨w.heap.size, 3, none⟩ = some (.int .i64 n) := (cell_of_block hB2 3).trans rfl
  have hbb : Below w.heap.size w w2 := hb.trans (hb2.mono (by omega))
  clear hb2 hB2 c2
  go_wp2_with fail
  go_ret
  exact ⟨rfl, hbb⟩

set_option maxRecDepth 100000 in
set_option maxHeartbeats 2000000 in
theorem specText_6 (x y n : Int) (v4 v5 : Value) (w : World) (hx : 0 ≤ x ∧ x ≤ 5) (hy : 0 ≤ y ∧ y ≤ 5) (hn : 0 ≤ n ∧ n ≤ 9) :
    Calls Tryz.prog 71 #[.agg #[.int .i64 6, .int .i64 x, .int .i64 y, .int .i64 n, v4, v5]] w fun e w' => e = .returned (.string ⟨([byteOf 97 x, 61, 42, byteOf 97 y] : List UInt8).toArray⟩) ∧ Below w.heap.size w w' := by
  obtain ⟨hx0, hx5⟩ := hx
  obtain ⟨hy0, hy5⟩ := hy
  obtain ⟨hn0, hn9⟩ := hn
  have hb0 := (Below.refl w.heap.size w).alloc (Nat.le_refl _) (.cells #[.int .i64 6, .int .i64 x, .int .i64 y, .int .i64 n, v4, v5] 86)
  have hz : (w.alloc (.cells #[.int .i64 6, .int .i64 x, .int .i64 y, .int .i64 n, v4, v5] 86)).heap.size = w.heap.size + 1 := by simp
  have hB := heap_alloc_new w (.cells #[.int .i64 6, .int .i64 x, .int .i64 y, .int .i64 n, v4, v5] 86)
  have HB := Lib.hid hB
  have HZ := Lib.hid hz
  clear hB hz
  go_enter Tryz.func71, Tryz.ntmps71
  go_wp2_with fail
  refine (specLetter_any x _ hx0 hx5).mono ?_
  rintro E w1 ⟨rfl, hb1⟩
  rw [HZ.out] at hb1
  have hs1 := hb1.size
  rw [HZ.out] at hs1
  have hB1 := (hb1.block w.heap.size (by omega)).trans HB.out
  have c2 : w1.cell? ⟨w.heap.size, 2, none⟩ = some (.int .i64 y) := (cell_of_block hB1 2).trans rfl
  have hb : Below w.heap.size w w1 := hb0.trans (hb1.mono (by omega))
  clear hb1
  have HB1 := Lib.hid hB1
  clear hB1
  go_wp2_with fail
  refine (specLetter_any y _ hy0 hy5).mono ?_
  rintro E w2 ⟨rfl, hb2⟩
  have hs2 := hb2.size
  have hB2 := (hb2.block w.heap.size (by omega)).trans HB1.out
  have d0 : w2.cell? ⟨w.heap.size, 0, none⟩ = some (.int .i64 6) := (cell_of_block hB2 0).trans rfl
  have d3 : w2.cell? ⟨w.heap.size, 3, none⟩ = some (.int .i64 n) := (cell_of_block hB2 3).trans rfl
  have hbb : Below w.heap.size w w2 := hb.trans (hb2.mono (by omega))
  clear hb2 hB2 c2
  go_wp2_with fail
  go_ret
  exact ⟨rfl, hbb⟩

set_option maxRecDepth 100000 in
set_option maxHeartbeats 2000000 in
theorem specText_7 (x y n : Int) (v4 v5 : Value) (w : World) (hx : 0 ≤ x ∧ x ≤ 5) (hy : 0 ≤ y ∧ y ≤ 5) (hn : 0 ≤ n ∧ n ≤ 9) :
    Calls Tryz.prog 71 #[.agg #[.int .i64 7, .int .i64 x, .int .i64 y, .int .i64 n, v4, v5]] w fun e w' => e = .returned (.string ⟨([42, byteOf 97 x, 61, byteOf 97 y] : List UInt8).toArray⟩) ∧ Below w.heap.size w w' := by
  obtain ⟨hx0, hx5⟩ := hx
  obtain ⟨hy0, hy5⟩ := hy
  obtain ⟨hn0, hn9⟩ := hn
  have hb0 := (Below.refl w.heap.size w).alloc (Nat.le_refl _) (.cells #[.int .i64 7, .int .i64 x, .int .i64 y, .int .i64 n, v4, v5] 86)
  have hz : (w.alloc (.cells #[.int .i64 7, .int .i64 x, .int .i64 y, .int .i64 n, v4, v5] 86)).heap.size = w.heap.size + 1 := by simp
  have hB := heap_alloc_new w (.cells #[.int .i64 7, .int .i64 x, .int .i64 y, .int .i64 n, v4, v5] 86)
  have HB := Lib.hid hB
  have HZ := Lib.hid hz
  clear hB hz
  go_enter Tryz.func71, Tryz.ntmps71
  go_wp2_with fail
  refine (specLetter_any x _ hx0 hx5).mono ?_
  rintro E w1 ⟨rfl, hb1⟩
  rw [HZ.out] at hb1
  have hs1 := hb1.size
  rw [HZ.out] at hs1
  have hB1 := (hb1.block w.heap.size (by omega)).trans HB.out
  have c2 : w1.cell? ⟨w.heap.size, 2, none⟩ = some (.int .i64 y) := (cell_of_block hB1 2).trans rfl
  have hb : Below w.heap.size w w1 := hb0.trans (hb1.mono (by omega))
  clear hb1
  have HB1 := Lib.hid hB1
  clear hB1
  go_wp2_with fail
  refine (specLetter_any y _ hy0 hy5).mono ?_
  rintro E w2 ⟨rfl, hb2⟩
  have hs2 := hb2.size
  have hB2 := (hb2.block w.heap.size (by omega)).trans HB1.out
  have d0 : w2.cell? ⟨w.heap.size, 0, none⟩ = some (.int .i64 7) := (cell_of_block hB2 0).trans rfl
  have d3 : w2.cell? ⟨w.heap.size, 3, none⟩ = some (.int .i64 n) := (cell_of_block hB2 3).trans rfl
  have hbb : Below w.heap.size w w2 := hb.trans (hb2.mono (by omega))
  clear hb2 hB2 c2
  go_wp2_with fail
  go_ret
  exact ⟨rfl, hbb⟩

set_option maxRecDepth 100000 in
set_option maxHeartbeats 2000000 in
theorem specText_8 (x y n : Int) (v4 v5 : Value) (w : World) (hx : 0 ≤ x ∧ x ≤ 5) (hy : 0 ≤ y ∧ y ≤ 5) (hn : 0 ≤ n ∧ n ≤ 9) :
    Calls Tryz.prog 71 #[.agg #[.int .i64 8, .int .i64 x, .int .i64 y, .int .i64 n, v4, v5]] w fun e w' => e = .returned (.string ⟨([100, 114, 111, 112, 32, byteOf 97 x] : List UInt8).toArray⟩) ∧ Below w.heap.size w w' := by
  obtain ⟨hx0, hx5⟩ := hx
  obtain ⟨hy0, hy5⟩ := hy
  obtain ⟨hn0, hn9⟩ := hn
  have hb0 := (Below.refl w.heap.size w).alloc (Nat.le_refl _) (.cells #[.int .i64 8, .int .i64 x, .int .i64 y, .int .i64 n, v4, v5] 86)
  have hz : (w.alloc (.cells #[.int .i64 8, .int .i64 x, .int .i64 y, .int .i64 n, v4, v5] 86)).heap.size = w.heap.size + 1 := by simp
  have hB := heap_alloc_new w (.cells #[.int .i64 8, .int .i64 x, .int .i64 y, .int .i64 n, v4, v5] 86)
  have HB := Lib.hid hB
  have HZ := Lib.hid hz
  clear hB hz
  go_enter Tryz.func71, Tryz.ntmps71
  go_wp2_with fail
  refine (specLetter_any x _ hx0 hx5).mono ?_
  rintro E w1 ⟨rfl, hb1⟩
  rw [HZ.out] at hb1
  have hs1 := hb1.size
  rw [HZ.out] at hs1
  have hB1 := (hb1.block w.heap.size (by omega)).trans HB.out
  have c2 : w1.cell? ⟨w.heap.size, 2, none⟩ = some (.int .i64 y) := (cell_of_block hB1 2).trans rfl
  have hb : Below w.heap.size w w1 := hb0.trans (hb1.mono (by omega))
  clear hb1
  have HB1 := Lib.hid hB1
  clear hB1
  go_wp2_with fail
  refine (specLetter_any y _ hy0 hy5).mono ?_
  rintro E w2 ⟨rfl, hb2⟩
  have hs2 := hb2.size
  have hB2 := (hb2.block w.heap.size (by omega)).trans HB1.out
  have d0 : w2.cell? ⟨w.heap.size, 0, none⟩ = some (.int .i64 8) := (cell_of_block hB2 0).trans rfl
  have d3 : w2.cell? ⟨w.heap.size, 3, none⟩ = some (.int .i64 n) := (cell_of_block hB2 3).trans rfl
  have hbb : Below w.heap.size w w2 := hb.trans (hb2.mono (by omega))
  clear hb2 hB2 c2
  go_wp2_with fail
  go_ret
  exact ⟨rfl, hbb⟩

end Go.Proofs.YtlddoookojjleaaGreatDoor

namespace Go.Proofs.YtlddoookojjleaaGreatDoor
open Go.RowKit Go.Deep
set_option linter.unusedVariables false

/-- The text of a statement, its lists' texts given. -/
def stmtT (op x y n : Int) (tt te : List UInt8) : List UInt8 :=
  if op = 1 then [byteOf 97 x, 61, byteOf 48 n]
  else if op = 2 then [byteOf 97 x, 61, 98, 111, 120, 32, byteOf 48 n]
  else if op = 3 then [byteOf 97 x, 61, byteOf 97 y]
  else if op = 4 then [byteOf 97 x, 61, 38, byteOf 97 y]
  else if op = 5 then [byteOf 97 x, 61, 38, 109, 117, 116, 32, byteOf 97 y]
  else if op = 6 then [byteOf 97 x, 61, 42, byteOf 97 y]
  else if op = 7 then [42, byteOf 97 x, 61, byteOf 97 y]
  else if op = 8 then [100, 114, 111, 112, 32, byteOf 97 x]
  else if op = 10 then ([108, 111, 111, 112, 123] ++ tt) ++ [125]
  else (([105, 102, 123] ++ tt) ++ [125, 123] ++ te) ++ [125]

/-- The text of a list: the statements' texts, with semicolons between them. -/
def listT : Sts → List UInt8
  | .nil => []
  | .cons op x y n t e r => stmtT op x y n (listT t) (listT e) ++ (if r.len = 0 then [] else 59 :: listT r)

/-- What is still to be written behind the first k statements. -/
def tailT (k : Nat) (d : Sts) : List UInt8 := if d.len = 0 then [] else if k = 0 then listT d else 59 :: listT d

theorem stmtT_le (op x y n : Int) (tt te : List UInt8) : (stmtT op x y n tt te).length ≤ 8 + tt.length + te.length := by
  unfold stmtT
  repeat' split
  all_goals simp
  all_goals omega

theorem listT_le (s : Sts) : (listT s).length ≤ 9 * s.size := by
  induction s with
  | nil => simp [listT]
  | cons op x y n t e r iht ihe ihr =>
    have h1 := stmtT_le op x y n (listT t) (listT e)
    simp only [listT, Sts.size, List.length_append]
    split
    · simp; omega
    · simp; omega

theorem okT_drop (s : Sts) : ∀ k, okT s → okT (s.drop k) := by
  induction s with
  | nil => intro k _; cases k <;> trivial
  | cons op x y n t e r iht ihe ihr =>
    intro k h
    cases k with
    | zero => exact h
    | succ k => exact ihr k h.2.2.2

theorem Sts.drop_len_eq (s : Sts) : ∀ k, (s.drop k).len = s.len - k := by
  induction s with
  | nil => intro k; cases k <;> simp [Sts.drop, Sts.len]
  | cons op x y n t e r iht ihe ihr =>
    intro k
    cases k with
    | zero => rfl
    | succ k => simp only [Sts.drop, Sts.len, ihr k]; omega

theorem tailT_cons (k : Nat) (op x y n : Int) (t e r : Sts) : tailT k (.cons op x y n t e r) = (if k = 0 then [] else [59]) ++ stmtT op x y n (listT t) (listT e) ++ tailT (k + 1) r := by
  unfold tailT
  rw [if_neg (by simp [Sts.len])]
  by_cases hk : k = 0 <;> by_cases hr : r.len = 0 <;> simp [hk, hr, listT]

/-- The bytes of a string. -/
def Txt (w : World) (l : List UInt8) (E : Ending) (w' : World) : Prop := E = .returned (.string ⟨l.toArray⟩) ∧ Below w.heap.size w w'

set_option maxHeartbeats 1000000 in
theorem l1List_of (s : Sts) (A : Option Addr) (c : Nat) (w : World) (hsz : s.size ≤ 100000) (hR : RepV w 0 w.heap.size s A c)
    (HS : ∀ (k : Nat) (op x y n : Int) (t e : Sts) (At Ae : Option Addr) (ct ce : Nat) (w' : World), s.drop k = .cons op x y n t e (s.drop (k + 1)) → Below w.heap.size w w' → RepV w' 0 w'.heap.size t At ct → RepV w' 0 w'.heap.size e Ae ce →
      Calls Tryz.prog 71 #[.agg #[.int .i64 op, .int .i64 x, .int .i64 y, .int .i64 n, .slice At t.len ct, .slice Ae e.len ce]] w' (Txt w' (stmtT op x y n (listT t) (listT e)))) :
    Calls Tryz.prog 62 #[.slice A s.len c] w (Txt w (listT s)) := by
  have hm := hR.2.1
  have hlc := hR.1
  unfold maxLen at hm
  have hstart : Hid (listT s = [] ++ tailT 0 (s.drop 0)) := by
    unfold Hid tailT
    cases s with
    | nil => rfl
    | cons op x y n t e r => simp [Sts.drop, Sts.len]
  have hle := listT_le s
  go_enter Tryz.func62, Tryz.ntmps62
  go_wp2_with fail
  go_loopw [3, 4] (fun v i wr => ∃ k : Nat, ∃ l : List UInt8, k ≤ s.len ∧ i = .int .i64 k ∧ v = .string ⟨l.toArray⟩ ∧ Below w.heap.size w wr ∧ Hid (listT s = l ++ tailT k (s.drop k))) (fun _ i _ => s.len - (intOf i).toNat)
  case atStart => exact ⟨0, [], Nat.zero_le _, rfl, rfl, Below.refl _ _, hstart⟩
  case round =>
    clear hstart
    obtain ⟨k, l, hk, rfl, rfl, hb, hl⟩ := hrel
    by_cases hlt : k < s.len
    · obtain ⟨b, op, x, y, n, t, e, rfl, -, hbb, hdr, At, ct, Ae, ce, ⟨h0, h1, h2, h3, h4, h5⟩, hRt, hRe⟩ := (hR.below hb hb.size).elem hlt
      have hc := HS k op x y n t e At Ae ct ce wr hdr hb hRt hRe
      have hl2 : Hid (listT s = (l ++ (if k = 0 then [] else [59]) ++ stmtT op x y n (listT t) (listT e)) ++ tailT (k + 1) (s.drop (k + 1))) := by
        unfold Hid
        rw [hl.out, hdr, tailT_cons]
        simp
      have hll : l.length + 1 + (stmtT op x y n (listT t) (listT e)).length ≤ 900001 := by
        have := congrArg List.length hl2.out
        simp only [List.length_append] at this
        omega
      generalize stmtT op x y n (listT t) (listT e) = st at hc hl2 hll
      have hbz := hb.size
      by_cases hk0 : k = 0
      · have hkz : (k : Int) ≤ 0 := by omega
        have ka : ∀ W, (Op.stringOp .add ⟨l.toArray⟩ ⟨st.toArray⟩).run Tryz.prog W = .ok (.string ⟨(l ++ st).toArray⟩) W := fun W => run_string_add_lists W l st (by omega) (by omega)
        rw [if_pos hk0, List.append_nil] at hl2
        clear hdr HS hl hk0
        go_wp2_with fail
        refine hc.mono ?_
        rintro E w1 ⟨rfl, hb1⟩
        go_wp2_with fail
        go_roundw
        case rel => exact ⟨k + 1, l ++ st, by omega, by go_num, rfl, hb.trans (hb1.mono hbz), hl2⟩
        case measure => simp [intOf]; omega
      · have ka : ∀ W, (Op.stringOp .add ⟨l.toArray⟩ ⟨#[59]⟩).run Tryz.prog W = .ok (.string ⟨(l ++ [59]).toArray⟩) W := fun W => run_string_add_lists W l [59] (by omega) (by simp)
        have kb : ∀ W, (Op.stringOp .add ⟨(l ++ [59]).toArray⟩ ⟨st.toArray⟩).run Tryz.prog W = .ok (.string ⟨((l ++ [59]) ++ st).toArray⟩) W := fun W => run_string_add_lists W (l ++ [59]) st (by simp; omega) (by omega)
        rw [if_neg hk0] at hl2
        have hkp : (0 : Int) < k := by omega
        clear hdr HS hl
        go_wp2_with fail
        refine hc.mono ?_
        rintro E w1 ⟨rfl, hb1⟩
        go_wp2_with fail
        go_roundw
        case rel => exact ⟨k + 1, l ++ 59 :: st, by omega, by go_num, rfl, hb.trans (hb1.mono hbz), hl2.out.trans (by simp)⟩
        case measure => simp [intOf]; omega
    · have hk' : k = s.len := by omega
      subst hk'
      have hfin : Hid (listT s = l) := by
        unfold Hid
        rw [hl.out, s.drop_len]
        simp [tailT, Sts.len]
      clear hl HS
      go_wp2_with fail
      go_ret
      exact ⟨by rw [hfin.out]; rfl, hb⟩

theorem bytes_add (P : Program) (a b : List UInt8) (W : World) (ha : a.length ≤ 1000000) (hb : b.length ≤ 1000000) : (Op.stringOp .add ⟨a.toArray⟩ ⟨b.toArray⟩).run P W = .ok (.string ⟨(a ++ b).toArray⟩) W := run_string_add_lists W a b (by omega) (by omega)

set_option maxRecDepth 100000 in
set_option maxHeartbeats 2000000 in
theorem specText_10 (x y n : Int) (t e : Sts) (At Ae : Option Addr) (ct ce : Nat) (w : World) (hs : t.size ≤ 100000)
    (HT : ∀ w', Below w.heap.size w w' → Calls Tryz.prog 62 #[.slice At t.len ct] w' (Txt w' (listT t))) :
    Calls Tryz.prog 71 #[.agg #[.int .i64 10, .int .i64 x, .int .i64 y, .int .i64 n, .slice At t.len ct, .slice Ae e.len ce]] w (Txt w (stmtT 10 x y n (listT t) (listT e))) := by
  have hb0 := (Below.refl w.heap.size w).alloc (Nat.le_refl _) (.cells #[.int .i64 10, .int .i64 x, .int .i64 y, .int .i64 n, .slice At t.len ct, .slice Ae e.len ce] 86)
  have hle := listT_le t
  have ka := fun W => bytes_add Tryz.prog [108, 111, 111, 112, 123] (listT t) W (by simp) (by omega)
  have kb := fun W => bytes_add Tryz.prog ([108, 111, 111, 112, 123] ++ listT t) [125] W (by simp; omega) (by simp)
  have hst : Hid (stmtT 10 x y n (listT t) (listT e) = ([108, 111, 111, 112, 123] ++ listT t) ++ [125]) := rfl
  go_enter Tryz.func71, Tryz.ntmps71
  go_wp2_with fail
  refine (HT _ hb0).mono ?_
  rintro E w1 ⟨rfl, hb1⟩
  generalize listT t = tt at *
  go_wp2_with fail
  go_ret
  exact ⟨by rw [hst.out]; rfl, hb0.trans (hb1.mono (by simp))⟩

theorem held_2 {B K : Nat} {w1 wo w' : World} {b4 b5 : Value} (hb : Below wo.heap.size wo w') (h : Below K w1 wo) (hK : K = w1.heap.size) (hB : B < w1.heap.size)
    (q4 : w1.cell? ⟨B, 4, none⟩ = some b4) (q5 : w1.cell? ⟨B, 5, none⟩ = some b5) : Below K w1 w' ∧ w'.cell? ⟨B, 4, none⟩ = some b4 ∧ w'.cell? ⟨B, 5, none⟩ = some b5 := by
  subst hK
  have hbb : Below w1.heap.size w1 w' := h.trans (hb.mono h.size)
  exact ⟨hbb, (hbb.cell hB).trans q4, (hbb.cell hB).trans q5⟩

set_option maxRecDepth 100000 in
set_option maxHeartbeats 4000000 in
theorem specText_9 (x y n : Int) (t e : Sts) (At Ae : Option Addr) (ct ce : Nat) (w : World) (hs : t.size + e.size ≤ 100000)
    (HT : ∀ w', Below w.heap.size w w' → Calls Tryz.prog 62 #[.slice At t.len ct] w' (Txt w' (listT t)))
    (HE : ∀ w', Below w.heap.size w w' → Calls Tryz.prog 62 #[.slice Ae e.len ce] w' (Txt w' (listT e))) :
    Calls Tryz.prog 71 #[.agg #[.int .i64 9, .int .i64 x, .int .i64 y, .int .i64 n, .slice At t.len ct, .slice Ae e.len ce]] w (Txt w (stmtT 9 x y n (listT t) (listT e))) := by
  have hb0 := (Below.refl w.heap.size w).alloc (Nat.le_refl _) (.cells #[.int .i64 9, .int .i64 x, .int .i64 y, .int .i64 n, .slice At t.len ct, .slice Ae e.len ce] 86)
  have hle := listT_le t
  have hle2 := listT_le e
  have hst : stmtT 9 x y n (listT t) (listT e) = ((([105, 102, 123] ++ listT t) ++ [125, 123]) ++ listT e) ++ [125] := rfl
  rw [hst]
  have ka := fun W => bytes_add Tryz.prog [105, 102, 123] (listT t) W (by simp) (by omega)
  have kb := fun W => bytes_add Tryz.prog ([105, 102, 123] ++ listT t) [125, 123] W (by simp; omega) (by simp)
  have kc := fun W => bytes_add Tryz.prog (([105, 102, 123] ++ listT t) ++ [125, 123]) (listT e) W (by simp; omega) (by omega)
  have kd := fun W => bytes_add Tryz.prog ((([105, 102, 123] ++ listT t) ++ [125, 123]) ++ listT e) [125] W (by simp; omega) (by simp)
  unfold Txt at HT HE ⊢
  generalize (⟨(((([105, 102, 123] ++ listT t) ++ [125, 123]) ++ listT e) ++ [125]).toArray⟩ : ByteArray) = S4 at kd ⊢
  generalize (⟨((([105, 102, 123] ++ listT t) ++ [125, 123]) ++ listT e).toArray⟩ : ByteArray) = S3 at kc kd
  generalize (⟨(([105, 102, 123] ++ listT t) ++ [125, 123]).toArray⟩ : ByteArray) = S2 at kb kc
  generalize (⟨([105, 102, 123] ++ listT t).toArray⟩ : ByteArray) = S1 at ka kb
  generalize (⟨(listT t).toArray⟩ : ByteArray) = T1 at ka HT
  generalize (⟨(listT e).toArray⟩ : ByteArray) = T2 at kc HE
  have hbw : w.heap.size < (w.alloc (.cells #[.int .i64 9, .int .i64 x, .int .i64 y, .int .i64 n, .slice At t.len ct, .slice Ae e.len ce] 86)).heap.size := by simp
  have hg := heap_alloc_new w (.cells #[.int .i64 9, .int .i64 x, .int .i64 y, .int .i64 n, .slice At t.len ct, .slice Ae e.len ce] 86)
  have q4 : (w.alloc (.cells #[.int .i64 9, .int .i64 x, .int .i64 y, .int .i64 n, .slice At t.len ct, .slice Ae e.len ce] 86)).cell? ⟨w.heap.size, 4, none⟩ = some (.slice At t.len ct) := (cell_of_block hg 4).trans rfl
  have q5 : (w.alloc (.cells #[.int .i64 9, .int .i64 x, .int .i64 y, .int .i64 n, .slice At t.len ct, .slice Ae e.len ce] 86)).cell? ⟨w.heap.size, 5, none⟩ = some (.slice Ae e.len ce) := (cell_of_block hg 5).trans rfl
  have HQ4 := Lib.hid q4
  have HQ5 := Lib.hid q5
  clear hg q4 q5 hle hle2 hst
  go_enter Tryz.func71, Tryz.ntmps71
  go_wp2_with fail
  obtain ⟨w1, hw1⟩ : ∃ w1, w1 = w.alloc (.cells #[.int .i64 9, .int .i64 x, .int .i64 y, .int .i64 n, .slice At t.len ct, .slice Ae e.len ce] 86) := ⟨_, rfl⟩
  rw [← hw1] at hb0 hbw HQ4 HQ5 ⊢
  clear hw1
  have q4 := HQ4.out
  have q5 := HQ5.out
  clear HQ4 HQ5
  go_region_held3 (fun w' => Below w1.heap.size w1 w' ∧ w'.cell? ⟨w.heap.size, 4, none⟩ = some (.slice At t.len ct) ∧ w'.cell? ⟨w.heap.size, 5, none⟩ = some (.slice Ae e.len ce))
    (first | exact ⟨(Below.refl w1.heap.size w1).drew, q4, q5⟩ | exact held_2 hbn (And.left ‹Below w1.heap.size w1 _ ∧ _›) rfl (by omega) q4 q5)
    (first
      | (go_at_call_of 62 At; refine (HT _ ?_).mono ?_; (have hbx := And.left ‹Below w1.heap.size w1 _ ∧ _›; exact hb0.trans (hbx.mono (by omega))); rintro E w' ⟨rfl, hbn⟩)
      | (go_at_call_of 62 Ae; refine (HE _ ?_).mono ?_; (have hbx := And.left ‹Below w1.heap.size w1 _ ∧ _›; exact hb0.trans (hbx.mono (by omega))); rintro E w' ⟨rfl, hbn⟩))
  have hbl := And.left ‹Below w1.heap.size w1 _ ∧ _›
  go_wp2_with fail
  go_ret
  exact ⟨rfl, hb0.trans (hbl.mono (by omega))⟩

end Go.Proofs.YtlddoookojjleaaGreatDoor

namespace Go.Proofs.YtlddoookojjleaaGreatDoor
open Go.RowKit Go.Deep
set_option linter.unusedVariables false

theorem specText_any (op x y n : Int) (t e : Sts) (At Ae : Option Addr) (ct ce : Nat) (w : World) (hs : t.size + e.size ≤ 100000) (hok : 1 ≤ op ∧ op ≤ 10 ∧ (op ≤ 8 → 0 ≤ x ∧ x ≤ 5 ∧ 0 ≤ y ∧ y ≤ 5 ∧ 0 ≤ n ∧ n ≤ 9))
    (HT : ∀ w', Below w.heap.size w w' → Calls Tryz.prog 62 #[.slice At t.len ct] w' (Txt w' (listT t)))
    (HE : ∀ w', Below w.heap.size w w' → Calls Tryz.prog 62 #[.slice Ae e.len ce] w' (Txt w' (listT e))) :
    Calls Tryz.prog 71 #[.agg #[.int .i64 op, .int .i64 x, .int .i64 y, .int .i64 n, .slice At t.len ct, .slice Ae e.len ce]] w (Txt w (stmtT op x y n (listT t) (listT e))) := by
  obtain ⟨h1, h10, h8⟩ := hok
  by_cases e1 : op = 1
  · subst e1
    have h := h8 (by omega)
    exact specText_1 x y n _ _ w ⟨h.1, h.2.1⟩ ⟨h.2.2.1, h.2.2.2.1⟩ ⟨h.2.2.2.2.1, h.2.2.2.2.2⟩
  by_cases e2 : op = 2
  · subst e2
    have h := h8 (by omega)
    exact specText_2 x y n _ _ w ⟨h.1, h.2.1⟩ ⟨h.2.2.1, h.2.2.2.1⟩ ⟨h.2.2.2.2.1, h.2.2.2.2.2⟩
  by_cases e3 : op = 3
  · subst e3
    have h := h8 (by omega)
    exact specText_3 x y n _ _ w ⟨h.1, h.2.1⟩ ⟨h.2.2.1, h.2.2.2.1⟩ ⟨h.2.2.2.2.1, h.2.2.2.2.2⟩
  by_cases e4 : op = 4
  · subst e4
    have h := h8 (by omega)
    exact specText_4 x y n _ _ w ⟨h.1, h.2.1⟩ ⟨h.2.2.1, h.2.2.2.1⟩ ⟨h.2.2.2.2.1, h.2.2.2.2.2⟩
  by_cases e5 : op = 5
  · subst e5
    have h := h8 (by omega)
    exact specText_5 x y n _ _ w ⟨h.1, h.2.1⟩ ⟨h.2.2.1, h.2.2.2.1⟩ ⟨h.2.2.2.2.1, h.2.2.2.2.2⟩
  by_cases e6 : op = 6
  · subst e6
    have h := h8 (by omega)
    exact specText_6 x y n _ _ w ⟨h.1, h.2.1⟩ ⟨h.2.2.1, h.2.2.2.1⟩ ⟨h.2.2.2.2.1, h.2.2.2.2.2⟩
  by_cases e7 : op = 7
  · subst e7
    have h := h8 (by omega)
    exact specText_7 x y n _ _ w ⟨h.1, h.2.1⟩ ⟨h.2.2.1, h.2.2.2.1⟩ ⟨h.2.2.2.2.1, h.2.2.2.2.2⟩
  by_cases e8 : op = 8
  · subst e8
    have h := h8 (by omega)
    exact specText_8 x y n _ _ w ⟨h.1, h.2.1⟩ ⟨h.2.2.1, h.2.2.2.1⟩ ⟨h.2.2.2.2.1, h.2.2.2.2.2⟩
  by_cases e9 : op = 9
  · subst e9
    exact specText_9 x y n t e At Ae ct ce w hs HT HE
  · obtain rfl : op = 10 := by omega
    exact specText_10 x y n t e At Ae ct ce w (by omega) HT

theorem specList_any (N : Nat) : ∀ (s : Sts) (A : Option Addr) (c : Nat) (w : World), s.size < N → s.size ≤ 100000 → okT s → RepV w 0 w.heap.size s A c → Calls Tryz.prog 62 #[.slice A s.len c] w (Txt w (listT s)) := by
  induction N with
  | zero => intro s A c w h; omega
  | succ N ih =>
    intro s A c w hN hsz hok hR
    refine l1List_of s A c w hsz hR fun k op x y n t e At Ae ct ce w' hdr hb hRt hRe => ?_
    have hz := s.drop_size_le k
    rw [hdr] at hz
    simp only [Sts.size] at hz
    have hd := okT_drop s k hok
    rw [hdr] at hd
    exact specText_any op x y n t e At Ae ct ce w' (by omega) hd.1 (fun w2 hb2 => ih t At ct w2 (by omega) (by omega) hd.2.1 (hRt.below hb2 hb2.size)) (fun w2 hb2 => ih e Ae ce w2 (by omega) (by omega) hd.2.2.1 (hRe.below hb2 hb2.size))

end Go.Proofs.YtlddoookojjleaaGreatDoor

namespace Go.Proofs.YtlddoookojjleaaGreatDoor
open Go.RowKit Go.Deep
set_option linter.unusedVariables false

theorem typesB_elem' {ts : List Int} (h : typesB ts = true) {k : Nat} {v : Int} (hv : ts[k]? = some v) : 1 ≤ v ∧ v ≤ 4 := by
  simp only [typesB, Bool.and_eq_true, List.all_eq_true, decide_eq_true_eq] at h
  exact h.1 v (List.mem_of_getElem? hv)

/-- The letter of a type. -/
def letT (t : Int) : UInt8 := if t = 1 then 105 else if t = 2 then 98 else if t = 3 then 114 else 109

/-- The text of a program. -/
def progT (ts : List Int) (s : Sts) : List UInt8 := (ts.map letT ++ [58]) ++ listT s

/-- What FormatProgram answers. -/
def formatT (ts : List Int) (s : Sts) : List UInt8 := if validB ts s then progT ts s else []

set_option maxRecDepth 100000 in
set_option maxHeartbeats 2000000 in
theorem l1Program_any (ts : List Int) (s : Sts) (At As : Option Addr) (ct cs : Nat) (w : World) (hty : typesB ts = true) (hok : okT s) (hsz : s.size ≤ 30) (hT : IntsV w 0 w.heap.size ts At ct) (hR : RepV w 0 w.heap.size s As cs) :
    Calls Tryz.prog 55 #[.agg #[.slice At ts.length ct, .slice As s.len cs]] w (Txt w (progT ts s)) := by
  have hb0 := (Below.refl w.heap.size w).alloc (Nat.le_refl _) (.cells #[.slice At ts.length ct, .slice As s.len cs] 26)
  have hz0 : (w.alloc (.cells #[.slice At ts.length ct, .slice As s.len cs] 26)).heap.size = w.heap.size + 1 := by simp
  have hB := Lib.hid (heap_alloc_new w (.cells #[.slice At ts.length ct, .slice As s.len cs] 26))
  have hl6 : ts.length ≤ 6 := by
    simp only [typesB, Bool.and_eq_true, decide_eq_true_eq] at hty
    exact hty.2
  have HTY := Lib.hid hty
  have hle := listT_le s
  have HZ := Lib.hid hz0
  clear hty hz0
  have hst := Below.refl (w.heap.size + 1) (w.alloc (.cells #[.slice At ts.length ct, .slice As s.len cs] 26))
  have hs0 : w.heap.size + 1 ≤ (w.alloc (.cells #[.slice At ts.length ct, .slice As s.len cs] 26)).heap.size := by rw [HZ.out]; exact Nat.le_refl _
  go_enter Tryz.func55, Tryz.ntmps55
  go_wp2_with fail
  go_loopw [3, 4] (fun v i wr => ∃ k : Nat, ∃ l : List UInt8, k ≤ ts.length ∧ i = .int .i64 k ∧ v = .string ⟨l.toArray⟩ ∧ Below (w.heap.size + 1) (w.alloc (.cells #[.slice At ts.length ct, .slice As s.len cs] 26)) wr ∧ w.heap.size + 1 ≤ wr.heap.size ∧ Hid (l = (ts.take k).map letT)) (fun _ i _ => ts.length - (intOf i).toNat)
  case atStart => exact ⟨0, [], Nat.zero_le _, rfl, rfl, hst, hs0, rfl⟩
  case round =>
    clear hst hs0
    obtain ⟨k, l, hk, rfl, rfl, hb, hwz, hl⟩ := hrel
    have hbk := (hb.block w.heap.size (by omega)).trans hB.out
    have p0 : wr.cell? ⟨w.heap.size, 0, none⟩ = some (.slice At ts.length ct) := (cell_of_block hbk 0).trans rfl
    have p1 : wr.cell? ⟨w.heap.size, 1, none⟩ = some (.slice As s.len cs) := (cell_of_block hbk 1).trans rfl
    have hbb : Below w.heap.size w wr := hb0.trans (hb.mono (by omega))
    have hll : Hid (l.length = k) := by
      unfold Hid
      rw [hl.out]
      simp
      omega
    have hl0 : l.length ≤ k := by rw [hll.out]; exact Nat.le_refl _
    clear hbk hll
    by_cases hlt : k < ts.length
    · obtain ⟨b, v, rfl, -, hbl, hx, hc⟩ := (hT.below hbb hbb.size).elem hlt
      have hv := typesB_elem' HTY.out hx
      have hnew : Hid (l ++ [letT v] = (ts.take (k + 1)).map letT) := by
        unfold Hid
        rw [hl.out, List.take_add_one, hx]
        simp
      obtain ⟨hv1, hv4⟩ := hv
      have hcl : ∀ o, (wr.alloc o).cell? (b.add k) = some (.int .i64 v) := fun o => (World.cell?_alloc_lt _ _ _ (by rw [block_add]; exact hbl)).trans hc
      have hp0 : ∀ o, (wr.alloc o).cell? ⟨w.heap.size, 0, none⟩ = some (.slice (some b) ts.length ct) := fun o => (World.cell?_alloc_lt _ _ _ (by simp; omega)).trans p0
      clear hx hc hl
      by_cases h1 : v = 1
      · subst h1
        have ka := fun W => bytes_add Tryz.prog l [105] W (by omega) (by simp)
        go_wp2_with fail
        go_roundw
        case rel => exact ⟨k + 1, l ++ [105], by omega, by go_num, rfl, hb.alloc (by omega) _, by simp; omega, hnew⟩
        case measure => simp [intOf]; omega
      by_cases h2 : v = 2
      · subst h2
        have ka := fun W => bytes_add Tryz.prog l [98] W (by omega) (by simp)
        go_wp2_with fail
        go_roundw
        case rel => exact ⟨k + 1, l ++ [98], by omega, by go_num, rfl, hb.alloc (by omega) _, by simp; omega, hnew⟩
        case measure => simp [intOf]; omega
      by_cases h3 : v = 3
      · subst h3
        have ka := fun W => bytes_add Tryz.prog l [114] W (by omega) (by simp)
        go_wp2_with fail
        go_roundw
        case rel => exact ⟨k + 1, l ++ [114], by omega, by go_num, rfl, hb.alloc (by omega) _, by simp; omega, hnew⟩
        case measure => simp [intOf]; omega
      obtain rfl : v = 4 := by omega
      have ka := fun W => bytes_add Tryz.prog l [109] W (by omega) (by simp)
      go_wp2_with fail
      go_roundw
      case rel => exact ⟨k + 1, l ++ [109], by omega, by go_num, rfl, hb.alloc (by omega) _, by simp; omega, hnew⟩
      case measure => simp [intOf]; omega
    · have hk' : k = ts.length := by omega
      subst hk'
      have hl2 : Hid (l = ts.map letT) := by unfold Hid; rw [hl.out, List.take_length]
      have ka := fun W => bytes_add Tryz.prog l [58] W (by omega) (by simp)
      have kb := fun W => bytes_add Tryz.prog (l ++ [58]) (listT s) W (by simp; omega) (by omega)
      have hst2 : Hid (progT ts s = (l ++ [58]) ++ listT s) := by unfold Hid progT; rw [hl2.out]
      have hLs := specList_any (s.size + 1) s As cs wr (by omega) (by omega) hok (hR.below hbb hbb.size)
      unfold Txt at hLs
      generalize hg1 : (⟨((l ++ [58]) ++ listT s).toArray⟩ : ByteArray) = S2 at kb
      generalize (⟨(l ++ [58]).toArray⟩ : ByteArray) = S1 at ka kb
      generalize (⟨(listT s).toArray⟩ : ByteArray) = T1 at kb hLs
      have HG := Lib.hid hg1
      clear hg1 hl
      go_wp2_with fail
      refine hLs.mono ?_
      rintro E w2 ⟨rfl, hb2⟩
      go_wp2_with fail
      go_ret
      exact ⟨by rw [hst2.out, HG.out]; rfl, hbb.trans (hb2.mono hbb.size)⟩

end Go.Proofs.YtlddoookojjleaaGreatDoor
