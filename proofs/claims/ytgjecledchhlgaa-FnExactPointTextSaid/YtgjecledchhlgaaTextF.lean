/-
  The program's texts of simple statements.
-/
import Derived.Test.YtgjecledchhlgaaText
import Derived.Deep.RegionHeld3
namespace Go.Proofs.Ytgjecledchhlgaa
open Go.RowKit Go.Deep
set_option linter.unusedVariables false

theorem held_c2 {B K : Nat} {w1 wo w' : World} {b0 b1 : Value} (hb : Below wo.heap.size wo w') (h : Below K w1 wo) (hK : K = w1.heap.size) (hB : B < w1.heap.size)
    (q0 : w1.cell? ⟨B, 0, none⟩ = some b0) (q1 : w1.cell? ⟨B, 1, none⟩ = some b1) : Below K w1 w' ∧ w'.cell? ⟨B, 0, none⟩ = some b0 ∧ w'.cell? ⟨B, 1, none⟩ = some b1 := by
  subst hK
  have hbb : Below w1.heap.size w1 w' := h.trans (hb.mono h.size)
  exact ⟨hbb, (hbb.cell hB).trans q0, (hbb.cell hB).trans q1⟩

set_option maxRecDepth 100000 in
set_option maxHeartbeats 4000000 in
theorem text_1 (x n : Int) (w : World) (hx : 0 ≤ x ∧ x ≤ 5) (hn : 0 ≤ n ∧ n ≤ 9) :
    Calls Try.prog 167 #[.agg #[.int .i64 x, .int .i64 n]] w fun e w' => e = .returned (.string ⟨([byteOf 97 x, 61, byteOf 48 n] : List UInt8).toArray⟩) ∧ Below w.heap.size w w' := by
  obtain ⟨hx0, hx5⟩ := hx
  obtain ⟨hn0, hn9⟩ := hn
  have hb0 := (Below.refl w.heap.size w).alloc (Nat.le_refl _) (.cells #[.int .i64 x, .int .i64 n] 113)
  have hbw : w.heap.size < (w.alloc (.cells #[.int .i64 x, .int .i64 n] 113)).heap.size := by simp
  have hg := heap_alloc_new w (.cells #[.int .i64 x, .int .i64 n] 113)
  have q0 : (w.alloc (.cells #[.int .i64 x, .int .i64 n] 113)).cell? ⟨w.heap.size, 0, none⟩ = some (.int .i64 x) := (cell_of_block hg 0).trans rfl
  have q1 : (w.alloc (.cells #[.int .i64 x, .int .i64 n] 113)).cell? ⟨w.heap.size, 1, none⟩ = some (.int .i64 n) := (cell_of_block hg 1).trans rfl
  have HQ0 := Lib.hid q0
  have HQ1 := Lib.hid q1
  clear hg q0 q1
  go_enter Try.func167, Try.ntmps167
  go_wp2_with fail
  obtain ⟨w1, hw1⟩ : ∃ w1, w1 = w.alloc (.cells #[.int .i64 x, .int .i64 n] 113) := ⟨_, rfl⟩
  rw [← hw1] at hb0 hbw HQ0 HQ1 ⊢
  clear hw1
  have q0 := HQ0.out
  have q1 := HQ1.out
  clear HQ0 HQ1
  go_region_held3 (fun w' => Below w1.heap.size w1 w' ∧ w'.cell? ⟨w.heap.size, 0, none⟩ = some (.int .i64 x) ∧ w'.cell? ⟨w.heap.size, 1, none⟩ = some (.int .i64 n))
    (first | exact ⟨(Below.refl w1.heap.size w1).drew, q0, q1⟩ | exact held_c2 hbn (And.left ‹Below w1.heap.size w1 _ ∧ _›) rfl (by omega) q0 q1)
    (first
      | (go_at_call 169; refine (varText_any _ _ ?_ ?_).mono ?_; omega; omega; rintro E w' ⟨rfl, hbn⟩)
      | (go_at_call 170; refine (itoa_any _ _ ?_ ?_).mono ?_; omega; omega; rintro E w' ⟨rfl, hbn⟩))
  have hbl := And.left ‹Below w1.heap.size w1 _ ∧ _›
  go_wp2_with fail
  go_ret
  exact ⟨rfl, hb0.trans (hbl.mono (by omega))⟩

set_option maxRecDepth 100000 in
set_option maxHeartbeats 4000000 in
theorem text_2 (x n : Int) (w : World) (hx : 0 ≤ x ∧ x ≤ 5) (hn : 0 ≤ n ∧ n ≤ 9) :
    Calls Try.prog 186 #[.agg #[.int .i64 x, .int .i64 n]] w fun e w' => e = .returned (.string ⟨([byteOf 97 x, 61, 98, 111, 120, 32, byteOf 48 n] : List UInt8).toArray⟩) ∧ Below w.heap.size w w' := by
  obtain ⟨hx0, hx5⟩ := hx
  obtain ⟨hn0, hn9⟩ := hn
  have hb0 := (Below.refl w.heap.size w).alloc (Nat.le_refl _) (.cells #[.int .i64 x, .int .i64 n] 114)
  have hbw : w.heap.size < (w.alloc (.cells #[.int .i64 x, .int .i64 n] 114)).heap.size := by simp
  have hg := heap_alloc_new w (.cells #[.int .i64 x, .int .i64 n] 114)
  have q0 : (w.alloc (.cells #[.int .i64 x, .int .i64 n] 114)).cell? ⟨w.heap.size, 0, none⟩ = some (.int .i64 x) := (cell_of_block hg 0).trans rfl
  have q1 : (w.alloc (.cells #[.int .i64 x, .int .i64 n] 114)).cell? ⟨w.heap.size, 1, none⟩ = some (.int .i64 n) := (cell_of_block hg 1).trans rfl
  have HQ0 := Lib.hid q0
  have HQ1 := Lib.hid q1
  clear hg q0 q1
  go_enter Try.func186, Try.ntmps186
  go_wp2_with fail
  obtain ⟨w1, hw1⟩ : ∃ w1, w1 = w.alloc (.cells #[.int .i64 x, .int .i64 n] 114) := ⟨_, rfl⟩
  rw [← hw1] at hb0 hbw HQ0 HQ1 ⊢
  clear hw1
  have q0 := HQ0.out
  have q1 := HQ1.out
  clear HQ0 HQ1
  go_region_held3 (fun w' => Below w1.heap.size w1 w' ∧ w'.cell? ⟨w.heap.size, 0, none⟩ = some (.int .i64 x) ∧ w'.cell? ⟨w.heap.size, 1, none⟩ = some (.int .i64 n))
    (first | exact ⟨(Below.refl w1.heap.size w1).drew, q0, q1⟩ | exact held_c2 hbn (And.left ‹Below w1.heap.size w1 _ ∧ _›) rfl (by omega) q0 q1)
    (first
      | (go_at_call 169; refine (varText_any _ _ ?_ ?_).mono ?_; omega; omega; rintro E w' ⟨rfl, hbn⟩)
      | (go_at_call 170; refine (itoa_any _ _ ?_ ?_).mono ?_; omega; omega; rintro E w' ⟨rfl, hbn⟩))
  have hbl := And.left ‹Below w1.heap.size w1 _ ∧ _›
  go_wp2_with fail
  go_ret
  exact ⟨rfl, hb0.trans (hbl.mono (by omega))⟩

set_option maxRecDepth 100000 in
set_option maxHeartbeats 4000000 in
theorem text_3 (x y : Int) (w : World) (hx : 0 ≤ x ∧ x ≤ 5) (hy : 0 ≤ y ∧ y ≤ 5) :
    Calls Try.prog 189 #[.agg #[.int .i64 x, .int .i64 y]] w fun e w' => e = .returned (.string ⟨([byteOf 97 x, 61, byteOf 97 y] : List UInt8).toArray⟩) ∧ Below w.heap.size w w' := by
  obtain ⟨hx0, hx5⟩ := hx
  obtain ⟨hy0, hy5⟩ := hy
  have hb0 := (Below.refl w.heap.size w).alloc (Nat.le_refl _) (.cells #[.int .i64 x, .int .i64 y] 116)
  have hbw : w.heap.size < (w.alloc (.cells #[.int .i64 x, .int .i64 y] 116)).heap.size := by simp
  have hg := heap_alloc_new w (.cells #[.int .i64 x, .int .i64 y] 116)
  have q0 : (w.alloc (.cells #[.int .i64 x, .int .i64 y] 116)).cell? ⟨w.heap.size, 0, none⟩ = some (.int .i64 x) := (cell_of_block hg 0).trans rfl
  have q1 : (w.alloc (.cells #[.int .i64 x, .int .i64 y] 116)).cell? ⟨w.heap.size, 1, none⟩ = some (.int .i64 y) := (cell_of_block hg 1).trans rfl
  have HQ0 := Lib.hid q0
  have HQ1 := Lib.hid q1
  clear hg q0 q1
  go_enter Try.func189, Try.ntmps189
  go_wp2_with fail
  obtain ⟨w1, hw1⟩ : ∃ w1, w1 = w.alloc (.cells #[.int .i64 x, .int .i64 y] 116) := ⟨_, rfl⟩
  rw [← hw1] at hb0 hbw HQ0 HQ1 ⊢
  clear hw1
  have q0 := HQ0.out
  have q1 := HQ1.out
  clear HQ0 HQ1
  go_region_held3 (fun w' => Below w1.heap.size w1 w' ∧ w'.cell? ⟨w.heap.size, 0, none⟩ = some (.int .i64 x) ∧ w'.cell? ⟨w.heap.size, 1, none⟩ = some (.int .i64 y))
    (first | exact ⟨(Below.refl w1.heap.size w1).drew, q0, q1⟩ | exact held_c2 hbn (And.left ‹Below w1.heap.size w1 _ ∧ _›) rfl (by omega) q0 q1)
    (first
      | (go_at_call 169; refine (varText_any _ _ ?_ ?_).mono ?_; omega; omega; rintro E w' ⟨rfl, hbn⟩)
      | (go_at_call 170; refine (itoa_any _ _ ?_ ?_).mono ?_; omega; omega; rintro E w' ⟨rfl, hbn⟩))
  have hbl := And.left ‹Below w1.heap.size w1 _ ∧ _›
  go_wp2_with fail
  go_ret
  exact ⟨rfl, hb0.trans (hbl.mono (by omega))⟩

set_option maxRecDepth 100000 in
set_option maxHeartbeats 4000000 in
theorem text_4 (x y : Int) (w : World) (hx : 0 ≤ x ∧ x ≤ 5) (hy : 0 ≤ y ∧ y ≤ 5) :
    Calls Try.prog 192 #[.agg #[.int .i64 x, .int .i64 y]] w fun e w' => e = .returned (.string ⟨([byteOf 97 x, 61, 38, byteOf 97 y] : List UInt8).toArray⟩) ∧ Below w.heap.size w w' := by
  obtain ⟨hx0, hx5⟩ := hx
  obtain ⟨hy0, hy5⟩ := hy
  have hb0 := (Below.refl w.heap.size w).alloc (Nat.le_refl _) (.cells #[.int .i64 x, .int .i64 y] 117)
  have hbw : w.heap.size < (w.alloc (.cells #[.int .i64 x, .int .i64 y] 117)).heap.size := by simp
  have hg := heap_alloc_new w (.cells #[.int .i64 x, .int .i64 y] 117)
  have q0 : (w.alloc (.cells #[.int .i64 x, .int .i64 y] 117)).cell? ⟨w.heap.size, 0, none⟩ = some (.int .i64 x) := (cell_of_block hg 0).trans rfl
  have q1 : (w.alloc (.cells #[.int .i64 x, .int .i64 y] 117)).cell? ⟨w.heap.size, 1, none⟩ = some (.int .i64 y) := (cell_of_block hg 1).trans rfl
  have HQ0 := Lib.hid q0
  have HQ1 := Lib.hid q1
  clear hg q0 q1
  go_enter Try.func192, Try.ntmps192
  go_wp2_with fail
  obtain ⟨w1, hw1⟩ : ∃ w1, w1 = w.alloc (.cells #[.int .i64 x, .int .i64 y] 117) := ⟨_, rfl⟩
  rw [← hw1] at hb0 hbw HQ0 HQ1 ⊢
  clear hw1
  have q0 := HQ0.out
  have q1 := HQ1.out
  clear HQ0 HQ1
  go_region_held3 (fun w' => Below w1.heap.size w1 w' ∧ w'.cell? ⟨w.heap.size, 0, none⟩ = some (.int .i64 x) ∧ w'.cell? ⟨w.heap.size, 1, none⟩ = some (.int .i64 y))
    (first | exact ⟨(Below.refl w1.heap.size w1).drew, q0, q1⟩ | exact held_c2 hbn (And.left ‹Below w1.heap.size w1 _ ∧ _›) rfl (by omega) q0 q1)
    (first
      | (go_at_call 169; refine (varText_any _ _ ?_ ?_).mono ?_; omega; omega; rintro E w' ⟨rfl, hbn⟩)
      | (go_at_call 170; refine (itoa_any _ _ ?_ ?_).mono ?_; omega; omega; rintro E w' ⟨rfl, hbn⟩))
  have hbl := And.left ‹Below w1.heap.size w1 _ ∧ _›
  go_wp2_with fail
  go_ret
  exact ⟨rfl, hb0.trans (hbl.mono (by omega))⟩

set_option maxRecDepth 100000 in
set_option maxHeartbeats 4000000 in
theorem text_5 (x y : Int) (w : World) (hx : 0 ≤ x ∧ x ≤ 5) (hy : 0 ≤ y ∧ y ≤ 5) :
    Calls Try.prog 196 #[.agg #[.int .i64 x, .int .i64 y]] w fun e w' => e = .returned (.string ⟨([byteOf 97 x, 61, 38, 109, 117, 116, 32, byteOf 97 y] : List UInt8).toArray⟩) ∧ Below w.heap.size w w' := by
  obtain ⟨hx0, hx5⟩ := hx
  obtain ⟨hy0, hy5⟩ := hy
  have hb0 := (Below.refl w.heap.size w).alloc (Nat.le_refl _) (.cells #[.int .i64 x, .int .i64 y] 118)
  have hbw : w.heap.size < (w.alloc (.cells #[.int .i64 x, .int .i64 y] 118)).heap.size := by simp
  have hg := heap_alloc_new w (.cells #[.int .i64 x, .int .i64 y] 118)
  have q0 : (w.alloc (.cells #[.int .i64 x, .int .i64 y] 118)).cell? ⟨w.heap.size, 0, none⟩ = some (.int .i64 x) := (cell_of_block hg 0).trans rfl
  have q1 : (w.alloc (.cells #[.int .i64 x, .int .i64 y] 118)).cell? ⟨w.heap.size, 1, none⟩ = some (.int .i64 y) := (cell_of_block hg 1).trans rfl
  have HQ0 := Lib.hid q0
  have HQ1 := Lib.hid q1
  clear hg q0 q1
  go_enter Try.func196, Try.ntmps196
  go_wp2_with fail
  obtain ⟨w1, hw1⟩ : ∃ w1, w1 = w.alloc (.cells #[.int .i64 x, .int .i64 y] 118) := ⟨_, rfl⟩
  rw [← hw1] at hb0 hbw HQ0 HQ1 ⊢
  clear hw1
  have q0 := HQ0.out
  have q1 := HQ1.out
  clear HQ0 HQ1
  go_region_held3 (fun w' => Below w1.heap.size w1 w' ∧ w'.cell? ⟨w.heap.size, 0, none⟩ = some (.int .i64 x) ∧ w'.cell? ⟨w.heap.size, 1, none⟩ = some (.int .i64 y))
    (first | exact ⟨(Below.refl w1.heap.size w1).drew, q0, q1⟩ | exact held_c2 hbn (And.left ‹Below w1.heap.size w1 _ ∧ _›) rfl (by omega) q0 q1)
    (first
      | (go_at_call 169; refine (varText_any _ _ ?_ ?_).mono ?_; omega; omega; rintro E w' ⟨rfl, hbn⟩)
      | (go_at_call 170; refine (itoa_any _ _ ?_ ?_).mono ?_; omega; omega; rintro E w' ⟨rfl, hbn⟩))
  have hbl := And.left ‹Below w1.heap.size w1 _ ∧ _›
  go_wp2_with fail
  go_ret
  exact ⟨rfl, hb0.trans (hbl.mono (by omega))⟩

set_option maxRecDepth 100000 in
set_option maxHeartbeats 4000000 in
theorem text_6 (x y : Int) (w : World) (hx : 0 ≤ x ∧ x ≤ 5) (hy : 0 ≤ y ∧ y ≤ 5) :
    Calls Try.prog 200 #[.agg #[.int .i64 x, .int .i64 y]] w fun e w' => e = .returned (.string ⟨([byteOf 97 x, 61, 42, byteOf 97 y] : List UInt8).toArray⟩) ∧ Below w.heap.size w w' := by
  obtain ⟨hx0, hx5⟩ := hx
  obtain ⟨hy0, hy5⟩ := hy
  have hb0 := (Below.refl w.heap.size w).alloc (Nat.le_refl _) (.cells #[.int .i64 x, .int .i64 y] 119)
  have hbw : w.heap.size < (w.alloc (.cells #[.int .i64 x, .int .i64 y] 119)).heap.size := by simp
  have hg := heap_alloc_new w (.cells #[.int .i64 x, .int .i64 y] 119)
  have q0 : (w.alloc (.cells #[.int .i64 x, .int .i64 y] 119)).cell? ⟨w.heap.size, 0, none⟩ = some (.int .i64 x) := (cell_of_block hg 0).trans rfl
  have q1 : (w.alloc (.cells #[.int .i64 x, .int .i64 y] 119)).cell? ⟨w.heap.size, 1, none⟩ = some (.int .i64 y) := (cell_of_block hg 1).trans rfl
  have HQ0 := Lib.hid q0
  have HQ1 := Lib.hid q1
  clear hg q0 q1
  go_enter Try.func200, Try.ntmps200
  go_wp2_with fail
  obtain ⟨w1, hw1⟩ : ∃ w1, w1 = w.alloc (.cells #[.int .i64 x, .int .i64 y] 119) := ⟨_, rfl⟩
  rw [← hw1] at hb0 hbw HQ0 HQ1 ⊢
  clear hw1
  have q0 := HQ0.out
  have q1 := HQ1.out
  clear HQ0 HQ1
  go_region_held3 (fun w' => Below w1.heap.size w1 w' ∧ w'.cell? ⟨w.heap.size, 0, none⟩ = some (.int .i64 x) ∧ w'.cell? ⟨w.heap.size, 1, none⟩ = some (.int .i64 y))
    (first | exact ⟨(Below.refl w1.heap.size w1).drew, q0, q1⟩ | exact held_c2 hbn (And.left ‹Below w1.heap.size w1 _ ∧ _›) rfl (by omega) q0 q1)
    (first
      | (go_at_call 169; refine (varText_any _ _ ?_ ?_).mono ?_; omega; omega; rintro E w' ⟨rfl, hbn⟩)
      | (go_at_call 170; refine (itoa_any _ _ ?_ ?_).mono ?_; omega; omega; rintro E w' ⟨rfl, hbn⟩))
  have hbl := And.left ‹Below w1.heap.size w1 _ ∧ _›
  go_wp2_with fail
  go_ret
  exact ⟨rfl, hb0.trans (hbl.mono (by omega))⟩

set_option maxRecDepth 100000 in
set_option maxHeartbeats 4000000 in
theorem text_7 (x y : Int) (w : World) (hx : 0 ≤ x ∧ x ≤ 5) (hy : 0 ≤ y ∧ y ≤ 5) :
    Calls Try.prog 203 #[.agg #[.int .i64 x, .int .i64 y]] w fun e w' => e = .returned (.string ⟨([42, byteOf 97 x, 61, byteOf 97 y] : List UInt8).toArray⟩) ∧ Below w.heap.size w w' := by
  obtain ⟨hx0, hx5⟩ := hx
  obtain ⟨hy0, hy5⟩ := hy
  have hb0 := (Below.refl w.heap.size w).alloc (Nat.le_refl _) (.cells #[.int .i64 x, .int .i64 y] 120)
  have hbw : w.heap.size < (w.alloc (.cells #[.int .i64 x, .int .i64 y] 120)).heap.size := by simp
  have hg := heap_alloc_new w (.cells #[.int .i64 x, .int .i64 y] 120)
  have q0 : (w.alloc (.cells #[.int .i64 x, .int .i64 y] 120)).cell? ⟨w.heap.size, 0, none⟩ = some (.int .i64 x) := (cell_of_block hg 0).trans rfl
  have q1 : (w.alloc (.cells #[.int .i64 x, .int .i64 y] 120)).cell? ⟨w.heap.size, 1, none⟩ = some (.int .i64 y) := (cell_of_block hg 1).trans rfl
  have HQ0 := Lib.hid q0
  have HQ1 := Lib.hid q1
  clear hg q0 q1
  go_enter Try.func203, Try.ntmps203
  go_wp2_with fail
  obtain ⟨w1, hw1⟩ : ∃ w1, w1 = w.alloc (.cells #[.int .i64 x, .int .i64 y] 120) := ⟨_, rfl⟩
  rw [← hw1] at hb0 hbw HQ0 HQ1 ⊢
  clear hw1
  have q0 := HQ0.out
  have q1 := HQ1.out
  clear HQ0 HQ1
  go_region_held3 (fun w' => Below w1.heap.size w1 w' ∧ w'.cell? ⟨w.heap.size, 0, none⟩ = some (.int .i64 x) ∧ w'.cell? ⟨w.heap.size, 1, none⟩ = some (.int .i64 y))
    (first | exact ⟨(Below.refl w1.heap.size w1).drew, q0, q1⟩ | exact held_c2 hbn (And.left ‹Below w1.heap.size w1 _ ∧ _›) rfl (by omega) q0 q1)
    (first
      | (go_at_call 169; refine (varText_any _ _ ?_ ?_).mono ?_; omega; omega; rintro E w' ⟨rfl, hbn⟩)
      | (go_at_call 170; refine (itoa_any _ _ ?_ ?_).mono ?_; omega; omega; rintro E w' ⟨rfl, hbn⟩))
  have hbl := And.left ‹Below w1.heap.size w1 _ ∧ _›
  go_wp2_with fail
  go_ret
  exact ⟨rfl, hb0.trans (hbl.mono (by omega))⟩

set_option maxRecDepth 100000 in
set_option maxHeartbeats 4000000 in
theorem text_8 (x : Int) (w : World) (hx : 0 ≤ x ∧ x ≤ 5) :
    Calls Try.prog 206 #[.agg #[.int .i64 x]] w fun e w' => e = .returned (.string ⟨([100, 114, 111, 112, 32, byteOf 97 x] : List UInt8).toArray⟩) ∧ Below w.heap.size w w' := by
  obtain ⟨hx0, hx5⟩ := hx
  have hb0 := (Below.refl w.heap.size w).alloc (Nat.le_refl _) (.cells #[.int .i64 x] 122)
  go_enter Try.func206, Try.ntmps206
  go_wp2_with fail
  refine (varText_any x _ hx0 hx5).mono ?_
  rintro E w1 ⟨rfl, hb1⟩
  go_wp2_with fail
  go_ret
  exact ⟨rfl, hb0.trans (hb1.mono (by simp))⟩

end Go.Proofs.Ytgjecledchhlgaa
