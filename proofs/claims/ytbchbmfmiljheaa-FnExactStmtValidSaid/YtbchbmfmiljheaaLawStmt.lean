/-
  At every list of types and every statement, StmtValid of the program answers as its model does, and writes into nothing. Conditions: none.
-/
import Derived.Test.YtbchbmfmiljheaaOne
import Derived.Test.YtbchbmfmiljheaaRead
import Derived.Deep.RegionHeld3
namespace Go.Proofs.Ytbchbmfmiljheaa.fnStmtValid
open Go.ChangeShapes Go.WideShapes Go.ChangeAt Go.RowKit Go.Deep Go.Joins
set_option linter.unusedVariables false

theorem held_6 {B K : Nat} {w1 wo w' : World} {b0 b1 b2 b3 b4 b5 : Value} (hb : Below wo.heap.size wo w') (h : Below K w1 wo) (hK : K = w1.heap.size) (hB : B < w1.heap.size)
    (q0 : w1.cell? ⟨B, 0, none⟩ = some b0) (q1 : w1.cell? ⟨B, 1, none⟩ = some b1) (q2 : w1.cell? ⟨B, 2, none⟩ = some b2) (q3 : w1.cell? ⟨B, 3, none⟩ = some b3) (q4 : w1.cell? ⟨B, 4, none⟩ = some b4) (q5 : w1.cell? ⟨B, 5, none⟩ = some b5) :
    Below K w1 w' ∧ w'.cell? ⟨B, 0, none⟩ = some b0 ∧ w'.cell? ⟨B, 1, none⟩ = some b1 ∧ w'.cell? ⟨B, 2, none⟩ = some b2 ∧ w'.cell? ⟨B, 3, none⟩ = some b3 ∧ w'.cell? ⟨B, 4, none⟩ = some b4 ∧ w'.cell? ⟨B, 5, none⟩ = some b5 := by
  subst hK
  have hbb : Below w1.heap.size w1 w' := h.trans (hb.mono h.size)
  exact ⟨hbb, (hbb.cell hB).trans q0, (hbb.cell hB).trans q1, (hbb.cell hB).trans q2, (hbb.cell hB).trans q3, (hbb.cell hB).trans q4, (hbb.cell hB).trans q5⟩

theorem held_12 {B X K : Nat} {w1 wo w' : World} {b0 b1 b2 b3 b4 b5 x0 x1 x2 x3 x4 x5 : Value} (hb : Below wo.heap.size wo w') (h : Below K w1 wo) (hK : K = w1.heap.size) (hB : B < w1.heap.size) (hX : X < w1.heap.size)
    (q0 : w1.cell? ⟨B, 0, none⟩ = some b0) (q1 : w1.cell? ⟨B, 1, none⟩ = some b1) (q2 : w1.cell? ⟨B, 2, none⟩ = some b2) (q3 : w1.cell? ⟨B, 3, none⟩ = some b3) (q4 : w1.cell? ⟨B, 4, none⟩ = some b4) (q5 : w1.cell? ⟨B, 5, none⟩ = some b5) (z0 : w1.cell? ⟨X, 0, none⟩ = some x0) (z1 : w1.cell? ⟨X, 1, none⟩ = some x1) (z2 : w1.cell? ⟨X, 2, none⟩ = some x2) (z3 : w1.cell? ⟨X, 3, none⟩ = some x3) (z4 : w1.cell? ⟨X, 4, none⟩ = some x4) (z5 : w1.cell? ⟨X, 5, none⟩ = some x5) :
    Below K w1 w' ∧ w'.cell? ⟨B, 0, none⟩ = some b0 ∧ w'.cell? ⟨B, 1, none⟩ = some b1 ∧ w'.cell? ⟨B, 2, none⟩ = some b2 ∧ w'.cell? ⟨B, 3, none⟩ = some b3 ∧ w'.cell? ⟨B, 4, none⟩ = some b4 ∧ w'.cell? ⟨B, 5, none⟩ = some b5 ∧ w'.cell? ⟨X, 0, none⟩ = some x0 ∧ w'.cell? ⟨X, 1, none⟩ = some x1 ∧ w'.cell? ⟨X, 2, none⟩ = some x2 ∧ w'.cell? ⟨X, 3, none⟩ = some x3 ∧ w'.cell? ⟨X, 4, none⟩ = some x4 ∧ w'.cell? ⟨X, 5, none⟩ = some x5 := by
  subst hK
  have hbb : Below w1.heap.size w1 w' := h.trans (hb.mono h.size)
  exact ⟨hbb, (hbb.cell hB).trans q0, (hbb.cell hB).trans q1, (hbb.cell hB).trans q2, (hbb.cell hB).trans q3, (hbb.cell hB).trans q4, (hbb.cell hB).trans q5, (hbb.cell hX).trans z0, (hbb.cell hX).trans z1, (hbb.cell hX).trans z2, (hbb.cell hX).trans z3, (hbb.cell hX).trans z4, (hbb.cell hX).trans z5⟩

set_option maxRecDepth 100000 in
set_option maxHeartbeats 4000000 in
theorem walk (ts : List Int) (A : Option Addr) (c : Nat) (op x y n : Int) (t e : Sts) (At Ae : Option Addr) (ct ce : Nat) (W : World) (hT : IntsV W 0 W.heap.size ts A c) (hRt : RepV W 0 W.heap.size t At ct) (hRe : RepV W 0 W.heap.size e Ae ce) :
    Calls Try.prog 7 #[.slice A ts.length c, .agg #[.int .i64 op, .int .i64 x, .int .i64 y, .int .i64 n, .slice At t.len ct, .slice Ae e.len ce]] W fun e w' => e = .returned (.bool true) ∧ Below W.heap.size W w' := by
  have hTl := hT.1
  have hTm := hT.2.1
  unfold maxLen at hTm
  have hb0 := (Below.refl W.heap.size W).alloc (Nat.le_refl _) (.cells #[.int .i64 op, .int .i64 x, .int .i64 y, .int .i64 n, .slice At t.len ct, .slice Ae e.len ce] 40)
  have hz0 : (W.alloc (.cells #[.int .i64 op, .int .i64 x, .int .i64 y, .int .i64 n, .slice At t.len ct, .slice Ae e.len ce] 40)).heap.size = W.heap.size + 1 := by simp
  have hRt0 : RepV (W.alloc (.cells #[.int .i64 op, .int .i64 x, .int .i64 y, .int .i64 n, .slice At t.len ct, .slice Ae e.len ce] 40)) 0 (W.alloc (.cells #[.int .i64 op, .int .i64 x, .int .i64 y, .int .i64 n, .slice At t.len ct, .slice Ae e.len ce] 40)).heap.size t At ct := hRt.below hb0 (by simp)
  have hRe0 : RepV (W.alloc (.cells #[.int .i64 op, .int .i64 x, .int .i64 y, .int .i64 n, .slice At t.len ct, .slice Ae e.len ce] 40)) 0 (W.alloc (.cells #[.int .i64 op, .int .i64 x, .int .i64 y, .int .i64 n, .slice At t.len ct, .slice Ae e.len ce] 40)).heap.size e Ae ce := hRe.below hb0 (by simp)
  have hB := heap_alloc_new W (.cells #[.int .i64 op, .int .i64 x, .int .i64 y, .int .i64 n, .slice At t.len ct, .slice Ae e.len ce] 40)
  have HB := Lib.hid hB
  have HZ := Lib.hid hz0
  clear hB hz0
  by_cases hlen : ts.length ≤ 1048576
  · by_cases hsz : t.size + e.size ≤ 1048576
    · have hsub : Hid (subI 1048576 (t.size + e.size) = 1048576 - (t.size + e.size : Nat)) := if_pos (by omega)
      go_enter Try.func7, Try.ntmps7
      go_wp2_with fail
      refine (szStmt_all op x y n t e At Ae ct ce 1048576 _ (by omega) (by omega) hRt0 hRe0).mono ?_
      rintro E w1 ⟨he, hb1⟩
      rw [hsub.out] at he
      subst he
      rw [HZ.out] at hb1
      have hs1 := hb1.size
      rw [HZ.out] at hs1
      have hB1 := (hb1.block W.heap.size (by omega)).trans HB.out
      have p0 : w1.cell? ⟨W.heap.size, 0, none⟩ = some (.int .i64 op) := (cell_of_block hB1 0).trans rfl
      have p1 : w1.cell? ⟨W.heap.size, 1, none⟩ = some (.int .i64 x) := (cell_of_block hB1 1).trans rfl
      have p2 : w1.cell? ⟨W.heap.size, 2, none⟩ = some (.int .i64 y) := (cell_of_block hB1 2).trans rfl
      have p3 : w1.cell? ⟨W.heap.size, 3, none⟩ = some (.int .i64 n) := (cell_of_block hB1 3).trans rfl
      have p4 : w1.cell? ⟨W.heap.size, 4, none⟩ = some (.slice At t.len ct) := (cell_of_block hB1 4).trans rfl
      have p5 : w1.cell? ⟨W.heap.size, 5, none⟩ = some (.slice Ae e.len ce) := (cell_of_block hB1 5).trans rfl
      have hbb1 : Below W.heap.size W w1 := hb0.trans (hb1.mono (by omega))
      clear hB1 hb1 hRt0 hRe0
      go_wp2_with fail
      go_region_held3 (fun w' => Below w1.heap.size w1 w' ∧ w'.cell? ⟨W.heap.size, 0, none⟩ = some (.int .i64 op) ∧ w'.cell? ⟨W.heap.size, 1, none⟩ = some (.int .i64 x) ∧ w'.cell? ⟨W.heap.size, 2, none⟩ = some (.int .i64 y) ∧ w'.cell? ⟨W.heap.size, 3, none⟩ = some (.int .i64 n) ∧ w'.cell? ⟨W.heap.size, 4, none⟩ = some (.slice At t.len ct) ∧ w'.cell? ⟨W.heap.size, 5, none⟩ = some (.slice Ae e.len ce))
        (first | exact ⟨(Below.refl w1.heap.size w1).drew, p0, p1, p2, p3, p4, p5⟩ | exact held_6 hbn (And.left ‹Below w1.heap.size w1 _ ∧ _›) rfl (by omega) p0 p1 p2 p3 p4 p5)
        (first
          | (go_at_call 27; refine (toIntS_any ts A c _ hlen ?_).mono ?_; (have hbx := And.left ‹Below w1.heap.size w1 _ ∧ _›; exact hT.below (hbb1.trans (hbx.mono (by omega))) (by have := hbx.size; omega)); rintro E w' ⟨rfl, hIa, hbn⟩)
          | (go_at_call 28; refine (toStmt_all op x y n t e At Ae ct ce _ (by omega) (by omega) ?_ ?_).mono ?_; (have hbx := And.left ‹Below w1.heap.size w1 _ ∧ _›; exact hRt.below (hbb1.trans (hbx.mono (by omega))) (by have := hbx.size; omega)); (have hbx := And.left ‹Below w1.heap.size w1 _ ∧ _›; exact hRe.below (hbb1.trans (hbx.mono (by omega))) (by have := hbx.size; omega)); rintro E w' ⟨g1, g2, rfl, hta, hea, hbn⟩)
          | (go_at_call 24; refine (specStmtValid_any ts _ _ op x y n t e _ _ _ _ _ (by omega) ?_ ?_ ?_).mono ?_; exact (hIa.below' hbn (Nat.le_refl _)).keep (Nat.zero_le _) hbn.size (fun _ _ _ => rfl); exact hta.keep (Nat.zero_le _) (Nat.le_refl _) (fun _ _ _ => rfl); exact hea.keep (Nat.zero_le _) (Nat.le_refl _) (fun _ _ _ => rfl); rintro E w' ⟨rfl, hbn⟩))
      obtain ⟨hbl, p0', p1', p2', p3', p4', p5'⟩ := ‹Below w1.heap.size w1 _ ∧ _›
      have hbbq := hbb1.trans (hbl.mono (by omega))
      have hsq := hbl.size
      clear hbl p0 p1 p2 p3 p4 p5
      go_wp2_with fail
      refine (toIntS_any ts A c _ hlen (hT.below hbbq hbbq.size)).mono ?_
      rintro E w4 ⟨rfl, hI4, hb4⟩
      have hs4 := hb4.size
      have r0 := (hb4.cell (p := ⟨W.heap.size, 0, none⟩) (by simp; omega)).trans p0'
      have r1 := (hb4.cell (p := ⟨W.heap.size, 1, none⟩) (by simp; omega)).trans p1'
      have r2 := (hb4.cell (p := ⟨W.heap.size, 2, none⟩) (by simp; omega)).trans p2'
      have r3 := (hb4.cell (p := ⟨W.heap.size, 3, none⟩) (by simp; omega)).trans p3'
      have r4 := (hb4.cell (p := ⟨W.heap.size, 4, none⟩) (by simp; omega)).trans p4'
      have r5 := (hb4.cell (p := ⟨W.heap.size, 5, none⟩) (by simp; omega)).trans p5'
      have hbb4 := hbbq.trans (hb4.mono hbbq.size)
      have hI4' := hI4.keep (Nat.zero_le _) (Nat.le_refl _) fun _ _ _ => rfl
      clear hb4 hI4 p0' p1' p2' p3' p4' p5'
      go_wp2_with fail
      refine (toStmt_all op x y n t e At Ae ct ce _ (by omega) (by omega) (hRt.below hbb4 hbb4.size) (hRe.below hbb4 hbb4.size)).mono ?_
      rintro E w5 ⟨k1, k2, rfl, hXt, hXe, hb5⟩
      have hs5 := hb5.size
      have hI5 := hI4'.below hb5 hs5
      have hXt5 := hXt.keep (Nat.zero_le _) (Nat.le_refl _) fun _ _ _ => rfl
      have hXe5 := hXe.keep (Nat.zero_le _) (Nat.le_refl _) fun _ _ _ => rfl
      have HR0 := Lib.hid r0
      have HR1 := Lib.hid r1
      have HR2 := Lib.hid r2
      have HR3 := Lib.hid r3
      have HR4 := Lib.hid r4
      have HR5 := Lib.hid r5
      clear r0 r1 r2 r3 r4 r5 hI4' hXt hXe
      go_wp2_with fail
      have hba := (Below.refl w5.heap.size w5).alloc (Nat.le_refl _) (.cells #[.int .i64 op, .int .i64 x, .int .i64 y, .int .i64 n, .slice (some ⟨k1, 0, none⟩) t.len t.len, .slice (some ⟨k2, 0, none⟩) e.len e.len] 25)
      have hza : (w5.alloc (.cells #[.int .i64 op, .int .i64 x, .int .i64 y, .int .i64 n, .slice (some ⟨k1, 0, none⟩) t.len t.len, .slice (some ⟨k2, 0, none⟩) e.len e.len] 25)).heap.size = w5.heap.size + 1 := by simp
      have hXa := heap_alloc_new w5 (.cells #[.int .i64 op, .int .i64 x, .int .i64 y, .int .i64 n, .slice (some ⟨k1, 0, none⟩) t.len t.len, .slice (some ⟨k2, 0, none⟩) e.len e.len] 25)
      refine (implStmtValid_any ts _ _ op x y n t e _ _ _ _ _ (hI5.below hba (by simp)) (hXt5.below hba (by simp)) (hXe5.below hba (by simp))).mono ?_
      rintro E w6 ⟨rfl, hb6⟩
      rw [hza] at hb6
      have hs6 := hb6.size
      rw [hza] at hs6
      have h56 : Below w5.heap.size w5 w6 := hba.trans (hb6.mono (by omega))
      have hX6 := (hb6.block w5.heap.size (by omega)).trans hXa
      have hI6 := hI5.below h56 (by omega : w5.heap.size ≤ w6.heap.size)
      have hbb6 : Below W.heap.size W w6 := hbb4.trans ((hb5.mono hbb4.size).trans (h56.mono (by have := hbb4.size; omega)))
      have HX6 := Lib.hid hX6
      clear hb6 hba hza hXa hX6 hI5
      generalize validS ts op x y n t e = z
      go_wp2_with fail
      refine (toIntS_any ts A c _ hlen (hT.below hbb6 hbb6.size)).mono ?_
      rintro E w7 ⟨rfl, hI7, hb7⟩
      have hs7 := hb7.size
      go_wp2_with fail
      refine (eqIntS_any ts _ _ _ _ _ (hI6.below hb7 hs7) (hI7.keep (Nat.zero_le _) (Nat.le_refl _) fun _ _ _ => rfl)).mono ?_
      rintro E w8 ⟨rfl, hb8⟩
      have hs8 := hb8.size
      have h68 : Below w6.heap.size w6 w8 := hb7.trans (hb8.mono (by omega))
      have h58 : Below w5.heap.size w5 w8 := h56.trans (h68.mono (by omega))
      have h48 : Below w4.heap.size w4 w8 := hb5.trans (h58.mono (by omega))
      have hX8 := (h68.block w5.heap.size (by omega)).trans HX6.out
      have hXt8 := hXt5.below h58 (by omega : w5.heap.size ≤ w8.heap.size)
      have hXe8 := hXe5.below h58 (by omega : w5.heap.size ≤ w8.heap.size)
      have hbb8 : Below W.heap.size W w8 := hbb6.trans (h68.mono hbb6.size)
      have q0 := (h48.cell (p := ⟨W.heap.size, 0, none⟩) (by simp; omega)).trans HR0.out
      have q1 := (h48.cell (p := ⟨W.heap.size, 1, none⟩) (by simp; omega)).trans HR1.out
      have q2 := (h48.cell (p := ⟨W.heap.size, 2, none⟩) (by simp; omega)).trans HR2.out
      have q3 := (h48.cell (p := ⟨W.heap.size, 3, none⟩) (by simp; omega)).trans HR3.out
      have q4 := (h48.cell (p := ⟨W.heap.size, 4, none⟩) (by simp; omega)).trans HR4.out
      have q5 := (h48.cell (p := ⟨W.heap.size, 5, none⟩) (by simp; omega)).trans HR5.out
      have z0 : w8.cell? ⟨w5.heap.size, 0, none⟩ = some (.int .i64 op) := (cell_of_block hX8 0).trans rfl
      have z1 : w8.cell? ⟨w5.heap.size, 1, none⟩ = some (.int .i64 x) := (cell_of_block hX8 1).trans rfl
      have z2 : w8.cell? ⟨w5.heap.size, 2, none⟩ = some (.int .i64 y) := (cell_of_block hX8 2).trans rfl
      have z3 : w8.cell? ⟨w5.heap.size, 3, none⟩ = some (.int .i64 n) := (cell_of_block hX8 3).trans rfl
      have z4 : w8.cell? ⟨w5.heap.size, 4, none⟩ = some (.slice (some ⟨k1, 0, none⟩) t.len t.len) := (cell_of_block hX8 4).trans rfl
      have z5 : w8.cell? ⟨w5.heap.size, 5, none⟩ = some (.slice (some ⟨k2, 0, none⟩) e.len e.len) := (cell_of_block hX8 5).trans rfl
      clear hX8 hb7 hb8 h68 h58 h48 hI7 hI6 h56 hb5 hXt5 hXe5
      go_wp2_with fail
      go_region_held3 (fun w' => Below w8.heap.size w8 w' ∧ w'.cell? ⟨W.heap.size, 0, none⟩ = some (.int .i64 op) ∧ w'.cell? ⟨W.heap.size, 1, none⟩ = some (.int .i64 x) ∧ w'.cell? ⟨W.heap.size, 2, none⟩ = some (.int .i64 y) ∧ w'.cell? ⟨W.heap.size, 3, none⟩ = some (.int .i64 n) ∧ w'.cell? ⟨W.heap.size, 4, none⟩ = some (.slice At t.len ct) ∧ w'.cell? ⟨W.heap.size, 5, none⟩ = some (.slice Ae e.len ce) ∧ w'.cell? ⟨w5.heap.size, 0, none⟩ = some (.int .i64 op) ∧ w'.cell? ⟨w5.heap.size, 1, none⟩ = some (.int .i64 x) ∧ w'.cell? ⟨w5.heap.size, 2, none⟩ = some (.int .i64 y) ∧ w'.cell? ⟨w5.heap.size, 3, none⟩ = some (.int .i64 n) ∧ w'.cell? ⟨w5.heap.size, 4, none⟩ = some (.slice (some ⟨k1, 0, none⟩) t.len t.len) ∧ w'.cell? ⟨w5.heap.size, 5, none⟩ = some (.slice (some ⟨k2, 0, none⟩) e.len e.len))
        (first | exact ⟨(Below.refl w8.heap.size w8).drew, q0, q1, q2, q3, q4, q5, z0, z1, z2, z3, z4, z5⟩ | exact held_12 hbn (And.left ‹Below w8.heap.size w8 _ ∧ _›) rfl (by omega) (by omega) q0 q1 q2 q3 q4 q5 z0 z1 z2 z3 z4 z5)
        (first
          | (go_at_call 28; refine (toStmt_all op x y n t e At Ae ct ce _ (by omega) (by omega) ?_ ?_).mono ?_; (have hbx := And.left ‹Below w8.heap.size w8 _ ∧ _›; exact hRt.below (hbb8.trans (hbx.mono (by omega))) (by have := hbx.size; omega)); (have hbx := And.left ‹Below w8.heap.size w8 _ ∧ _›; exact hRe.below (hbb8.trans (hbx.mono (by omega))) (by have := hbx.size; omega)); rintro E w' ⟨j1, j2, rfl, hta, hea, hbn⟩)
          | (go_at_call 30; refine (eqStmt_all op x y n t e _ _ _ _ _ _ _ _ _ ?_ ?_ ?_ ?_).mono ?_; (have hbx := And.left ‹Below w8.heap.size w8 _ ∧ _›; exact hXt8.below hbx hbx.size); (have hbx := And.left ‹Below w8.heap.size w8 _ ∧ _›; exact hXe8.below hbx hbx.size); exact hta.keep (Nat.zero_le _) (Nat.le_refl _) (fun _ _ _ => rfl); exact hea.keep (Nat.zero_le _) (Nat.le_refl _) (fun _ _ _ => rfl); rintro E w' ⟨rfl, hbn⟩))
      have hbl := And.left ‹Below w8.heap.size w8 _ ∧ _›
      go_wp2_with fail
      go_ret
      exact ⟨rfl, hbb8.trans (hbl.mono (by omega))⟩
    · have hsub : Hid (subI 1048576 (t.size + e.size) = -1) := if_neg (by omega)
      go_enter Try.func7, Try.ntmps7
      go_wp2_with fail
      refine (szStmt_all op x y n t e At Ae ct ce 1048576 _ (by omega) (by omega) hRt0 hRe0).mono ?_
      rintro E w1 ⟨he, hb1⟩
      rw [hsub.out] at he
      subst he
      rw [HZ.out] at hb1
      go_wp2_with fail
      go_ret
      exact ⟨rfl, hb0.trans (hb1.mono (by omega))⟩
  · go_enter Try.func7, Try.ntmps7
    go_wp2_with fail
    go_ret
    exact ⟨rfl, hb0⟩

theorem own : ownKnob Try.prog.godebug = none := by kernel_rfl
theorem laidOut : laidOutB Try.prog = true := by kernel_rfl

set_option maxRecDepth 100000 in
theorem lifted (os : Os) (started : os.Started) (H : Type) (enc : TypeId × Value → H) :
    ReturnsInHanded {} Try.checked os 7 .any (Rows.fnExactStmtValidSpec.pre6 enc Try.prog Try.f7 Rows.fnExactStmtValidRow.domain false) (Rows.fnExactStmtValidSpec.post enc Try.prog Try.f7 false true false false) := by
  refine returnsInHanded_of_change (C := Try.checked) own started (by kernel_rfl) Try.func7
    (ChangeSpec.witness6 (enc := enc) (C := Try.checked) false ⟨#[], #[.slice none 0 0, .agg #[.int .i64 0, .int .i64 0, .int .i64 0, .int .i64 0, .slice none 0 0, .slice none 0 0]], []⟩ 8 (by kernel_rfl) (by kernel_rfl) (by kernel_rfl) (by kernel_rfl)) ?_
  intro W base args ds gs before hval0 hW hcnd _
  have hval : ∀ (j : Nat) t v, Try.f7.params[j]? = some t → args[j]? = some v → Value.okWide Try.prog W .any base t v := hval0
  have hW' := hW
  obtain ⟨p, q, hA0, hV, rfl, hfz, hnd⟩ := hW
  have hA : DataW.TrodAll enc Try.prog W 0 (fun _ => true) true Try.f7.params.toList args.toList ds p := hA0
  rw [Try.params7] at hA hval
  obtain ⟨v0, vs0, d0, ds0, p0, q0, hargs, rfl, rfl, h0, r0⟩ := trodAll_cons hA
  obtain ⟨v1, vs1, d1, ds1, p1, q1, rfl, rfl, rfl, h1, r1⟩ := trodAll_cons r0
  obtain ⟨rfl, rfl, rfl⟩ := trodAll_nil r1
  obtain rfl : args = #[v0, v1] := by cases args; simp_all
  obtain ⟨rfl, rfl⟩ := trodVars_none hV
  have k0 := h0
  have lt0 : ∀ x ∈ p0, x.block < W.heap.size := by obtain ⟨m, hm⟩ := k0; exact DataW.trod_lt m _ _ _ hm
  obtain ⟨a0, len0, cap0, rfl⟩ := okWide_slice Try.underlying27 (hval 0 27 v0 rfl rfl)
  obtain ⟨fu0, hf0⟩ := h0
  obtain ⟨ts0, At0, ct0, hv0, hT0⟩ := read_ints hf0
  injection hv0 with hv0 hv0' hv0''
  subst hv0 hv0' hv0''
  have k1 := h1
  have lt1 : ∀ x ∈ p1, x.block < W.heap.size := by obtain ⟨m, hm⟩ := k1; exact DataW.trod_lt m _ _ _ hm
  obtain ⟨cells1, rfl, hsz1⟩ := okWide_struct Try.underlying40 (hval 1 40 v1 rfl rfl)
  obtain ⟨cl1⟩ := cells1
  obtain ⟨fu1, hf1⟩ := h1
  obtain ⟨op1, x1, y1, nn1, t1, e1, At1, ct1, Ae1, ce1, hv1, hRt1, hRe1⟩ := read_stmt hf1 (fun m _ v x => read_stmts m v x)
  have hv1' : cl1 = [.int .i64 op1, .int .i64 x1, .int .i64 y1, .int .i64 nn1, .slice At1 t1.len ct1, .slice Ae1 e1.len ce1] := hv1
  subst hv1'
  clear hA0 hval0
  simp only [List.append_nil] at hW'
  refine (walk ts0 _ _ op1 x1 y1 nn1 t1 e1 At1 Ae1 ct1 ce1 W hT0 hRt1 hRe1).mono fun e W' ⟨he, bel⟩ => ?_
  subst he
  exact ⟨_, rfl, _, _, _, [], _, [], hW', trodAll_mk1 (shut_bool Try.underlying4 _), (trodAll_cons_mk (Below.trod laidOut (by kernel_rfl) (of_decide_eq_true (by kernel_rfl)) k0 bel lt0) (trodAll_cons_mk (Below.trod laidOut (by kernel_rfl) (of_decide_eq_true (by kernel_rfl)) k1 bel lt1) trodAll_mk0)), rfl, bel.frame _, fun h => by cases h⟩

theorem over : Rows.fnExactStmtValidRow.holds Try.pinned (OpenSpec.ofChange Rows.fnExactStmtValidSpec) :=
  OpenClaim.holds_of_wide 7 Try.f7 rfl rfl rfl rfl rfl rfl rfl ⟨rfl, rfl, rfl, rfl, rfl⟩ rfl rfl rfl rfl rfl (by kernel_rfl) Try.func7 (by kernel_rfl)
    (of_decide_eq_true (by kernel_rfl)) (by unfold Func.isWrapper; first | (rw [if_pos (by decide +kernel)]; kernel_rfl) | (rw [if_neg (by decide +kernel)]; exact ⟨rfl, rfl⟩))
    (fun os started H enc _ => lifted os started H enc)

theorem proved : Rows.FnExactStmtValidSaid :=
  over
#print axioms proved
end Go.Proofs.Ytbchbmfmiljheaa.fnStmtValid
