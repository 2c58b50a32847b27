/-
  At every two statements, VarsApart of the program answers as its model does, and writes into nothing. Conditions: none.
-/
import Derived.Test.YtfjfbooiegjplaaStAll
import Derived.Test.YtfjfbooiegjplaaMarkS1
import Derived.Test.YtfjfbooiegjplaaApart2
import Derived.Test.YtfjfbooiegjplaaRead
import Derived.Deep.RegionHeld3
namespace Go.Proofs.Ytfjfbooiegjplaa.fnVarsApart
open Go.ChangeShapes Go.WideShapes Go.ChangeAt Go.RowKit Go.Deep Go.Joins
set_option linter.unusedVariables false

theorem held_2 {B X K : Nat} {w1 wo w' : World} {b0 b1 b2 b3 b4 b5 x0 x1 x2 x3 x4 x5 : Value} (hb : Below wo.heap.size wo w') (h : Below K w1 wo) (hK : K = w1.heap.size) (hB : B < w1.heap.size) (hX : X < w1.heap.size)
    (q0 : w1.cell? ⟨B, 0, none⟩ = some b0) (q1 : w1.cell? ⟨B, 1, none⟩ = some b1) (q2 : w1.cell? ⟨B, 2, none⟩ = some b2) (q3 : w1.cell? ⟨B, 3, none⟩ = some b3) (q4 : w1.cell? ⟨B, 4, none⟩ = some b4) (q5 : w1.cell? ⟨B, 5, none⟩ = some b5) (z0 : w1.cell? ⟨X, 0, none⟩ = some x0) (z1 : w1.cell? ⟨X, 1, none⟩ = some x1) (z2 : w1.cell? ⟨X, 2, none⟩ = some x2) (z3 : w1.cell? ⟨X, 3, none⟩ = some x3) (z4 : w1.cell? ⟨X, 4, none⟩ = some x4) (z5 : w1.cell? ⟨X, 5, none⟩ = some x5) :
    Below K w1 w' ∧ w'.cell? ⟨B, 0, none⟩ = some b0 ∧ w'.cell? ⟨B, 1, none⟩ = some b1 ∧ w'.cell? ⟨B, 2, none⟩ = some b2 ∧ w'.cell? ⟨B, 3, none⟩ = some b3 ∧ w'.cell? ⟨B, 4, none⟩ = some b4 ∧ w'.cell? ⟨B, 5, none⟩ = some b5 ∧ w'.cell? ⟨X, 0, none⟩ = some x0 ∧ w'.cell? ⟨X, 1, none⟩ = some x1 ∧ w'.cell? ⟨X, 2, none⟩ = some x2 ∧ w'.cell? ⟨X, 3, none⟩ = some x3 ∧ w'.cell? ⟨X, 4, none⟩ = some x4 ∧ w'.cell? ⟨X, 5, none⟩ = some x5 := by
  subst hK
  have hbb : Below w1.heap.size w1 w' := h.trans (hb.mono h.size)
  exact ⟨hbb, (hbb.cell hB).trans q0, (hbb.cell hB).trans q1, (hbb.cell hB).trans q2, (hbb.cell hB).trans q3, (hbb.cell hB).trans q4, (hbb.cell hB).trans q5, (hbb.cell hX).trans z0, (hbb.cell hX).trans z1, (hbb.cell hX).trans z2, (hbb.cell hX).trans z3, (hbb.cell hX).trans z4, (hbb.cell hX).trans z5⟩

set_option maxRecDepth 100000 in
set_option maxHeartbeats 8000000 in
theorem walk (op1 x1 y1 n1 : Int) (t1 e1 : Sts) (At1 Ae1 : Option Addr) (ct1 ce1 : Nat) (op2 x2 y2 n2 : Int) (t2 e2 : Sts) (At2 Ae2 : Option Addr) (ct2 ce2 : Nat) (W : World) (hRt1 : RepV W 0 W.heap.size t1 At1 ct1) (hRe1 : RepV W 0 W.heap.size e1 Ae1 ce1) (hRt2 : RepV W 0 W.heap.size t2 At2 ct2) (hRe2 : RepV W 0 W.heap.size e2 Ae2 ce2) :
    Calls Try.prog 4 #[.agg #[.int .i64 op1, .int .i64 x1, .int .i64 y1, .int .i64 n1, .slice At1 t1.len ct1, .slice Ae1 e1.len ce1], .agg #[.int .i64 op2, .int .i64 x2, .int .i64 y2, .int .i64 n2, .slice At2 t2.len ct2, .slice Ae2 e2.len ce2]] W fun E w' => E = .returned (.bool true) ∧ Below W.heap.size W w' := by
  obtain ⟨W0, hW0⟩ : ∃ z, (W.alloc (.cells #[.int .i64 op1, .int .i64 x1, .int .i64 y1, .int .i64 n1, .slice At1 t1.len ct1, .slice Ae1 e1.len ce1] 24)).alloc (.cells #[.int .i64 op2, .int .i64 x2, .int .i64 y2, .int .i64 n2, .slice At2 t2.len ct2, .slice Ae2 e2.len ce2] 24) = z := ⟨_, rfl⟩
  obtain ⟨hA, hB, hz0⟩ := heap2 W (.cells #[.int .i64 op1, .int .i64 x1, .int .i64 y1, .int .i64 n1, .slice At1 t1.len ct1, .slice Ae1 e1.len ce1] 24) (.cells #[.int .i64 op2, .int .i64 x2, .int .i64 y2, .int .i64 n2, .slice At2 t2.len ct2, .slice Ae2 e2.len ce2] 24)
  have hb0 : Below W.heap.size W W0 := by rw [← hW0]; exact ((Below.refl _ _).alloc (Nat.le_refl _) _).alloc (by simp) _
  rw [hW0] at hA hB hz0
  have HA := Lib.hid hA
  have HB := Lib.hid hB
  have hRt10 := hRt1.below hb0 hb0.size
  have hRe10 := hRe1.below hb0 hb0.size
  have p0 : W0.cell? ⟨W.heap.size, 0, none⟩ = some (.int .i64 op1) := (cell_of_block hA 0).trans rfl
  have p1 : W0.cell? ⟨W.heap.size, 1, none⟩ = some (.int .i64 x1) := (cell_of_block hA 1).trans rfl
  have p2 : W0.cell? ⟨W.heap.size, 2, none⟩ = some (.int .i64 y1) := (cell_of_block hA 2).trans rfl
  have p3 : W0.cell? ⟨W.heap.size, 3, none⟩ = some (.int .i64 n1) := (cell_of_block hA 3).trans rfl
  have p4 : W0.cell? ⟨W.heap.size, 4, none⟩ = some (.slice At1 t1.len ct1) := (cell_of_block hA 4).trans rfl
  have p5 : W0.cell? ⟨W.heap.size, 5, none⟩ = some (.slice Ae1 e1.len ce1) := (cell_of_block hA 5).trans rfl
  have r0 : W0.cell? ⟨(W.heap.size + 1), 0, none⟩ = some (.int .i64 op2) := (cell_of_block hB 0).trans rfl
  have r1 : W0.cell? ⟨(W.heap.size + 1), 1, none⟩ = some (.int .i64 x2) := (cell_of_block hB 1).trans rfl
  have r2 : W0.cell? ⟨(W.heap.size + 1), 2, none⟩ = some (.int .i64 y2) := (cell_of_block hB 2).trans rfl
  have r3 : W0.cell? ⟨(W.heap.size + 1), 3, none⟩ = some (.int .i64 n2) := (cell_of_block hB 3).trans rfl
  have r4 : W0.cell? ⟨(W.heap.size + 1), 4, none⟩ = some (.slice At2 t2.len ct2) := (cell_of_block hB 4).trans rfl
  have r5 : W0.cell? ⟨(W.heap.size + 1), 5, none⟩ = some (.slice Ae2 e2.len ce2) := (cell_of_block hB 5).trans rfl
  clear hA hB
  go_enter Try.func4, Try.ntmps4
  go_wp2_with fail
  clear hW0
  refine (szStmt_all op1 x1 y1 n1 t1 e1 At1 Ae1 ct1 ce1 1048576 _ (by omega) (by omega) hRt10 hRe10).mono ?_
  rintro E w1 ⟨he, hb1⟩
  by_cases hsz : t1.size + e1.size ≤ 1048576
  · have hsub : subI 1048576 (t1.size + e1.size) = 1048576 - (t1.size + e1.size : Nat) := if_pos (by omega)
    rw [hsub] at he
    subst he
    obtain ⟨L1, hL1⟩ : ∃ L1 : Int, (1048576 : Int) - ((t1.size + e1.size : Nat) : Int) = L1 := ⟨_, rfl⟩
    have hL10 : 0 ≤ L1 := by omega
    have hL11 : L1 ≤ 1048576 := by omega
    have hLd : decide (L1 < 0) = false := decide_eq_false (by omega)
    have HL1 := Lib.hid hL1
    rw [hL1]
    have hs1 := hb1.size
    have HA1 := Lib.hid ((hb1.block W.heap.size (by omega)).trans HA.out)
    have HB1 := Lib.hid ((hb1.block (W.heap.size + 1) (by omega)).trans HB.out)
    have hbb1 : Below W.heap.size W w1 := hb0.trans (hb1.mono (by omega))
    have hb1x := HB1.out
    clear p0 p1 p2 p3 p4 p5 r0 r1 r2 r3 r4 r5 hRt10 hRe10 hb1 hL1 hsub
    have r0 : w1.cell? ⟨(W.heap.size + 1), 0, none⟩ = some (.int .i64 op2) := (cell_of_block hb1x 0).trans rfl
    have r1 : w1.cell? ⟨(W.heap.size + 1), 1, none⟩ = some (.int .i64 x2) := (cell_of_block hb1x 1).trans rfl
    have r2 : w1.cell? ⟨(W.heap.size + 1), 2, none⟩ = some (.int .i64 y2) := (cell_of_block hb1x 2).trans rfl
    have r3 : w1.cell? ⟨(W.heap.size + 1), 3, none⟩ = some (.int .i64 n2) := (cell_of_block hb1x 3).trans rfl
    have r4 : w1.cell? ⟨(W.heap.size + 1), 4, none⟩ = some (.slice At2 t2.len ct2) := (cell_of_block hb1x 4).trans rfl
    have r5 : w1.cell? ⟨(W.heap.size + 1), 5, none⟩ = some (.slice Ae2 e2.len ce2) := (cell_of_block hb1x 5).trans rfl
    clear hb1x
    go_wp2_with fail
    refine (szStmt_all op2 x2 y2 n2 t2 e2 At2 Ae2 ct2 ce2 L1 w1 hL10 hL11 (hRt2.below hbb1 hbb1.size) (hRe2.below hbb1 hbb1.size)).mono ?_
    rintro E w2 ⟨he, hb2⟩
    have hs2 := hb2.size
    have HA2 := Lib.hid ((hb2.block W.heap.size (by omega)).trans HA1.out)
    have HB2 := Lib.hid ((hb2.block (W.heap.size + 1) (by omega)).trans HB1.out)
    have hbb2 : Below W.heap.size W w2 := hbb1.trans (hb2.mono (by omega))
    clear hb2 r0 r1 r2 r3 r4 r5
    by_cases hsz2 : ((t2.size + e2.size : Nat) : Int) ≤ L1
    · have hsub : subI L1 (t2.size + e2.size) = L1 - (t2.size + e2.size : Nat) := if_pos hsz2
      rw [hsub] at he
      subst he
      have hLd2 : decide (L1 - ((t2.size + e2.size : Nat) : Int) < 0) = false := decide_eq_false (by omega)
      have hz1 : t1.size ≤ 1048576 := by omega
      have hz2 : e1.size ≤ 1048576 := by omega
      have hL1e := HL1.out
      have hz3 : t2.size + e2.size ≤ 1048576 := by omega
      clear hsub hL1e
      have hA2 := HA2.out
      have hB2 := HB2.out
      have p0 : w2.cell? ⟨W.heap.size, 0, none⟩ = some (.int .i64 op1) := (cell_of_block hA2 0).trans rfl
      have p1 : w2.cell? ⟨W.heap.size, 1, none⟩ = some (.int .i64 x1) := (cell_of_block hA2 1).trans rfl
      have p2 : w2.cell? ⟨W.heap.size, 2, none⟩ = some (.int .i64 y1) := (cell_of_block hA2 2).trans rfl
      have p3 : w2.cell? ⟨W.heap.size, 3, none⟩ = some (.int .i64 n1) := (cell_of_block hA2 3).trans rfl
      have p4 : w2.cell? ⟨W.heap.size, 4, none⟩ = some (.slice At1 t1.len ct1) := (cell_of_block hA2 4).trans rfl
      have p5 : w2.cell? ⟨W.heap.size, 5, none⟩ = some (.slice Ae1 e1.len ce1) := (cell_of_block hA2 5).trans rfl
      have r0 : w2.cell? ⟨(W.heap.size + 1), 0, none⟩ = some (.int .i64 op2) := (cell_of_block hB2 0).trans rfl
      have r1 : w2.cell? ⟨(W.heap.size + 1), 1, none⟩ = some (.int .i64 x2) := (cell_of_block hB2 1).trans rfl
      have r2 : w2.cell? ⟨(W.heap.size + 1), 2, none⟩ = some (.int .i64 y2) := (cell_of_block hB2 2).trans rfl
      have r3 : w2.cell? ⟨(W.heap.size + 1), 3, none⟩ = some (.int .i64 n2) := (cell_of_block hB2 3).trans rfl
      have r4 : w2.cell? ⟨(W.heap.size + 1), 4, none⟩ = some (.slice At2 t2.len ct2) := (cell_of_block hB2 4).trans rfl
      have r5 : w2.cell? ⟨(W.heap.size + 1), 5, none⟩ = some (.slice Ae2 e2.len ce2) := (cell_of_block hB2 5).trans rfl
      clear hA2 hB2
      have tok1 : True := trivial
      go_wp2_with fail
      go_region_held3 (fun w' => Below w2.heap.size w2 w' ∧ w'.cell? ⟨W.heap.size, 0, none⟩ = some (.int .i64 op1) ∧ w'.cell? ⟨W.heap.size, 1, none⟩ = some (.int .i64 x1) ∧ w'.cell? ⟨W.heap.size, 2, none⟩ = some (.int .i64 y1) ∧ w'.cell? ⟨W.heap.size, 3, none⟩ = some (.int .i64 n1) ∧ w'.cell? ⟨W.heap.size, 4, none⟩ = some (.slice At1 t1.len ct1) ∧ w'.cell? ⟨W.heap.size, 5, none⟩ = some (.slice Ae1 e1.len ce1) ∧ w'.cell? ⟨(W.heap.size + 1), 0, none⟩ = some (.int .i64 op2) ∧ w'.cell? ⟨(W.heap.size + 1), 1, none⟩ = some (.int .i64 x2) ∧ w'.cell? ⟨(W.heap.size + 1), 2, none⟩ = some (.int .i64 y2) ∧ w'.cell? ⟨(W.heap.size + 1), 3, none⟩ = some (.int .i64 n2) ∧ w'.cell? ⟨(W.heap.size + 1), 4, none⟩ = some (.slice At2 t2.len ct2) ∧ w'.cell? ⟨(W.heap.size + 1), 5, none⟩ = some (.slice Ae2 e2.len ce2))
        (first | exact ⟨(Below.refl w2.heap.size w2).drew, p0, p1, p2, p3, p4, p5, r0, r1, r2, r3, r4, r5⟩ | exact held_2 hbn (And.left ‹Below w2.heap.size w2 _ ∧ _›) rfl (by omega) (by omega) p0 p1 p2 p3 p4 p5 r0 r1 r2 r3 r4 r5 | exact held_2 hbm (And.left ‹Below w2.heap.size w2 _ ∧ _›) rfl (by omega) (by omega) p0 p1 p2 p3 p4 p5 r0 r1 r2 r3 r4 r5 | exact held_2 hbv (And.left ‹Below w2.heap.size w2 _ ∧ _›) rfl (by omega) (by omega) p0 p1 p2 p3 p4 p5 r0 r1 r2 r3 r4 r5)
        (first
          | (go_at_call 11; have _t := tok1; refine (toStmt_all op1 x1 y1 n1 t1 e1 At1 Ae1 ct1 ce1 _ (by omega) (by omega) ?_ ?_).mono ?_; (have hbx := And.left ‹Below w2.heap.size w2 _ ∧ _›; exact hRt1.below (hbb2.trans (hbx.mono (by omega))) (by have := hbx.size; omega)); (have hbx := And.left ‹Below w2.heap.size w2 _ ∧ _›; exact hRe1.below (hbb2.trans (hbx.mono (by omega))) (by have := hbx.size; omega)); rintro E w' ⟨g1, g2, rfl, hT3, hE3, hbn⟩; clear tok1)
          | (go_at_call 11; refine (toStmt_all op2 x2 y2 n2 t2 e2 At2 Ae2 ct2 ce2 _ (by omega) (by omega) ?_ ?_).mono ?_; (have hbx := And.left ‹Below w2.heap.size w2 _ ∧ _›; exact hRt2.below (hbb2.trans (hbx.mono (by omega))) (by have := hbx.size; omega)); (have hbx := And.left ‹Below w2.heap.size w2 _ ∧ _›; exact hRe2.below (hbb2.trans (hbx.mono (by omega))) (by have := hbx.size; omega)); rintro E w' ⟨g3, g4, rfl, hT4, hE4, hbm⟩)
          | (go_at_call 18; refine (specVarsApart_any op1 x1 y1 n1 t1 e1 _ _ _ _ op2 x2 y2 n2 t2 e2 _ _ _ _ _ ((hT3.below' hbm (Nat.le_refl _)).keep (Nat.zero_le _) hbm.size (fun _ _ _ => rfl)) ((hE3.below' hbm (Nat.le_refl _)).keep (Nat.zero_le _) hbm.size (fun _ _ _ => rfl)) (hT4.keep (Nat.zero_le _) (Nat.le_refl _) (fun _ _ _ => rfl)) (hE4.keep (Nat.zero_le _) (Nat.le_refl _) (fun _ _ _ => rfl)) (by omega) (by omega)).mono ?_; rintro E w' ⟨rfl, hbv⟩))
      obtain ⟨hb23, p0, p1, p2, p3, p4, p5, r0, r1, r2, r3, r4, r5⟩ := ‹Below w2.heap.size w2 _ ∧ _›
      obtain ⟨w3, hw3⟩ : ∃ q, w' = q := ⟨_, rfl⟩
      rw [hw3] at hb23 p0 p1 p2 p3 p4 p5 r0 r1 r2 r3 r4 r5 ⊢
      obtain ⟨z, hz⟩ : ∃ z, apartB (outV (fun v => ownB op1 x1 y1 v || varS t1 v || varS e1 v) 6) (outV (fun v => ownB op2 x2 y2 v || varS t2 v || varS e2 v) 6) = z := ⟨_, rfl⟩
      rw [hz]
      have HZ := Lib.hid hz
      have hzz : (z != z) = false := by simp
      have hs3 := hb23.size
      have HA3 := Lib.hid ((hb23.block W.heap.size (by omega)).trans HA2.out)
      have HB3 := Lib.hid ((hb23.block (W.heap.size + 1) (by omega)).trans HB2.out)
      have hbb3 : Below W.heap.size W w3 := hbb2.trans (hb23.mono (by omega))
      clear hz hT3 hE3 hT4 hE4 hbn hbm hbv hb23 hw3
      go_wp2_with fail
      refine (toStmt_sall op1 x1 y1 n1 t1 e1 At1 Ae1 ct1 ce1 w3 (by omega) (by omega) (hRt1.below hbb3 hbb3.size) (hRe1.below hbb3 hbb3.size)).mono ?_
      rintro E w4 ⟨⟨k1, k2, rfl, hT4, hE4, hb4⟩, hsf4⟩
      have hs4 := hb4.size
      have HT4 := Lib.hid hT4
      have HE4 := Lib.hid hE4
      have HF4 := Lib.hid hsf4
      have HA4 := Lib.hid ((hb4.block W.heap.size (by omega)).trans HA3.out)
      have HB4 := Lib.hid ((hb4.block (W.heap.size + 1) (by omega)).trans HB3.out)
      have hbb4 : Below W.heap.size W w4 := hbb3.trans (hb4.mono (by omega))
      clear hT4 hE4 hsf4 hb4 p0 p1 p2 p3 p4 p5 r0 r1 r2 r3 r4 r5
      have hba := (Below.refl w4.heap.size w4).alloc (Nat.le_refl _) (.cells #[.int .i64 op1, .int .i64 x1, .int .i64 y1, .int .i64 n1, .slice (some ⟨k1, 0, none⟩) t1.len t1.len, .slice (some ⟨k2, 0, none⟩) e1.len e1.len] 30)
      have hza : (w4.alloc (.cells #[.int .i64 op1, .int .i64 x1, .int .i64 y1, .int .i64 n1, .slice (some ⟨k1, 0, none⟩) t1.len t1.len, .slice (some ⟨k2, 0, none⟩) e1.len e1.len] 30)).heap.size = w4.heap.size + 1 := by simp
      have hXa := heap_alloc_new w4 (.cells #[.int .i64 op1, .int .i64 x1, .int .i64 y1, .int .i64 n1, .slice (some ⟨k1, 0, none⟩) t1.len t1.len, .slice (some ⟨k2, 0, none⟩) e1.len e1.len] 30)
      obtain ⟨w5, hw5⟩ : ∃ q, w4.alloc (.cells #[.int .i64 op1, .int .i64 x1, .int .i64 y1, .int .i64 n1, .slice (some ⟨k1, 0, none⟩) t1.len t1.len, .slice (some ⟨k2, 0, none⟩) e1.len e1.len] 30) = q := ⟨_, rfl⟩
      rw [hw5] at hba hza hXa
      have HX5 := Lib.hid hXa
      have HBA5 := Lib.hid hba
      have hA5 := (hba.block W.heap.size (by omega)).trans HA4.out
      have hB5 := (hba.block (W.heap.size + 1) (by omega)).trans HB4.out
      have hbb5 : Below W.heap.size W w5 := hbb4.trans (hba.mono (by omega))
      have HA5 := Lib.hid hA5
      have HB5 := Lib.hid hB5
      have r0 : w5.cell? ⟨(W.heap.size + 1), 0, none⟩ = some (.int .i64 op2) := (cell_of_block hB5 0).trans rfl
      have r1 : w5.cell? ⟨(W.heap.size + 1), 1, none⟩ = some (.int .i64 x2) := (cell_of_block hB5 1).trans rfl
      have r2 : w5.cell? ⟨(W.heap.size + 1), 2, none⟩ = some (.int .i64 y2) := (cell_of_block hB5 2).trans rfl
      have r3 : w5.cell? ⟨(W.heap.size + 1), 3, none⟩ = some (.int .i64 n2) := (cell_of_block hB5 3).trans rfl
      have r4 : w5.cell? ⟨(W.heap.size + 1), 4, none⟩ = some (.slice At2 t2.len ct2) := (cell_of_block hB5 4).trans rfl
      have r5 : w5.cell? ⟨(W.heap.size + 1), 5, none⟩ = some (.slice Ae2 e2.len ce2) := (cell_of_block hB5 5).trans rfl
      clear hXa hba hA5 hB5
      go_wp2_with fail
      clear hw5
      refine (toStmt_sall op2 x2 y2 n2 t2 e2 At2 Ae2 ct2 ce2 w5 (by omega) (by omega) (hRt2.below hbb5 hbb5.size) (hRe2.below hbb5 hbb5.size)).mono ?_
      rintro E w6 ⟨⟨m1, m2, rfl, hT6, hE6, hb6⟩, hsf6⟩
      have hs6 := hb6.size
      have HT6 := Lib.hid hT6
      have HE6 := Lib.hid hE6
      have HF6 := Lib.hid hsf6
      have HA6 := Lib.hid ((hb6.block W.heap.size (by omega)).trans HA5.out)
      have HB6 := Lib.hid ((hb6.block (W.heap.size + 1) (by omega)).trans HB5.out)
      have HX6 := Lib.hid ((hb6.block w4.heap.size (by omega)).trans HX5.out)
      have hbb6 : Below W.heap.size W w6 := hbb5.trans (hb6.mono (by omega))
      have HBA6 := Lib.hid (HBA5.out.trans (hb6.mono (by omega)))
      clear hT6 hE6 hsf6 hb6 r0 r1 r2 r3 r4 r5
      have hba := (Below.refl w6.heap.size w6).alloc (Nat.le_refl _) (.cells #[.int .i64 op2, .int .i64 x2, .int .i64 y2, .int .i64 n2, .slice (some ⟨m1, 0, none⟩) t2.len t2.len, .slice (some ⟨m2, 0, none⟩) e2.len e2.len] 30)
      have hza7 : (w6.alloc (.cells #[.int .i64 op2, .int .i64 x2, .int .i64 y2, .int .i64 n2, .slice (some ⟨m1, 0, none⟩) t2.len t2.len, .slice (some ⟨m2, 0, none⟩) e2.len e2.len] 30)).heap.size = w6.heap.size + 1 := by simp
      have hXb := heap_alloc_new w6 (.cells #[.int .i64 op2, .int .i64 x2, .int .i64 y2, .int .i64 n2, .slice (some ⟨m1, 0, none⟩) t2.len t2.len, .slice (some ⟨m2, 0, none⟩) e2.len e2.len] 30)
      obtain ⟨w7, hw7⟩ : ∃ q, w6.alloc (.cells #[.int .i64 op2, .int .i64 x2, .int .i64 y2, .int .i64 n2, .slice (some ⟨m1, 0, none⟩) t2.len t2.len, .slice (some ⟨m2, 0, none⟩) e2.len e2.len] 30) = q := ⟨_, rfl⟩
      rw [hw7] at hba hza7 hXb
      have HX7 := Lib.hid ((hba.block w4.heap.size (by omega)).trans HX6.out)
      have HY7 := Lib.hid hXb
      have HBA7 := Lib.hid (HBA6.out.trans (hba.mono (by omega)))
      have HBB7 := Lib.hid hba
      have HA7 := Lib.hid ((hba.block W.heap.size (by omega)).trans HA6.out)
      have HB7 := Lib.hid ((hba.block (W.heap.size + 1) (by omega)).trans HB6.out)
      have hbb7 : Below W.heap.size W w7 := hbb6.trans (hba.mono (by omega))
      have hX7 := HX7.out
      have p0 : w7.cell? ⟨w4.heap.size, 0, none⟩ = some (.int .i64 op1) := (cell_of_block hX7 0).trans rfl
      have p1 : w7.cell? ⟨w4.heap.size, 1, none⟩ = some (.int .i64 x1) := (cell_of_block hX7 1).trans rfl
      have p2 : w7.cell? ⟨w4.heap.size, 2, none⟩ = some (.int .i64 y1) := (cell_of_block hX7 2).trans rfl
      have p3 : w7.cell? ⟨w4.heap.size, 3, none⟩ = some (.int .i64 n1) := (cell_of_block hX7 3).trans rfl
      have p4 : w7.cell? ⟨w4.heap.size, 4, none⟩ = some (.slice (some ⟨k1, 0, none⟩) t1.len t1.len) := (cell_of_block hX7 4).trans rfl
      have p5 : w7.cell? ⟨w4.heap.size, 5, none⟩ = some (.slice (some ⟨k2, 0, none⟩) e1.len e1.len) := (cell_of_block hX7 5).trans rfl
      have u0 : w7.cell? ⟨w6.heap.size, 0, none⟩ = some (.int .i64 op2) := (cell_of_block hXb 0).trans rfl
      have u1 : w7.cell? ⟨w6.heap.size, 1, none⟩ = some (.int .i64 x2) := (cell_of_block hXb 1).trans rfl
      have u2 : w7.cell? ⟨w6.heap.size, 2, none⟩ = some (.int .i64 y2) := (cell_of_block hXb 2).trans rfl
      have u3 : w7.cell? ⟨w6.heap.size, 3, none⟩ = some (.int .i64 n2) := (cell_of_block hXb 3).trans rfl
      have u4 : w7.cell? ⟨w6.heap.size, 4, none⟩ = some (.slice (some ⟨m1, 0, none⟩) t2.len t2.len) := (cell_of_block hXb 4).trans rfl
      have u5 : w7.cell? ⟨w6.heap.size, 5, none⟩ = some (.slice (some ⟨m2, 0, none⟩) e2.len e2.len) := (cell_of_block hXb 5).trans rfl
      have hv := implVarsApart_any op1 x1 y1 n1 t1 e1 _ _ _ _ op2 x2 y2 n2 t2 e2 _ _ _ _ w3.heap.size w4.heap.size w5.heap.size w6.heap.size w7
        (HT4.out.keep (Nat.le_refl _) (Nat.le_refl _) fun p _ h2 => HBA7.out.cell h2) (HE4.out.keep (Nat.le_refl _) (Nat.le_refl _) fun p _ h2 => HBA7.out.cell h2) (HT6.out.keep (Nat.le_refl _) (Nat.le_refl _) fun p _ h2 => hba.cell h2) (HE6.out.keep (Nat.le_refl _) (Nat.le_refl _) fun p _ h2 => hba.cell h2)
        (by omega) (by omega) (fun p h1 h2 => (HBA7.out.frozen h2).trans (HF4.out p.block p.off h1)) (fun p h1 h2 => (hba.frozen h2).trans (HF6.out p.block p.off h1)) (by omega) (by omega)
      rw [HZ.out] at hv
      clear hba hXb hX7
      go_wp2_with fail
      clear hw7
      refine hv.mono ?_
      rintro E w8 ⟨rfl, hb8⟩
      have hs8 := hb8.size
      have HA8 := Lib.hid ((hb8.block W.heap.size (by omega)).trans HA7.out)
      have HB8 := Lib.hid ((hb8.block (W.heap.size + 1) (by omega)).trans HB7.out)
      have HX8 := Lib.hid ((hb8.block w4.heap.size (by omega)).trans HX7.out)
      have HY8 := Lib.hid ((hb8.block w6.heap.size (by omega)).trans HY7.out)
      have hbb8 : Below W.heap.size W w8 := hbb7.trans (hb8.mono (by omega))
      have hb48 : Below w4.heap.size w4 w8 := HBA7.out.trans (hb8.mono (by omega))
      have hb68 : Below w6.heap.size w6 w8 := HBB7.out.trans (hb8.mono (by omega))
      have hT8 : RepV w8 0 w8.heap.size t1 (some ⟨k1, 0, none⟩) t1.len := HT4.out.below hb48 hb48.size
      have hE8 : RepV w8 0 w8.heap.size e1 (some ⟨k2, 0, none⟩) e1.len := HE4.out.below hb48 hb48.size
      have HT8 := Lib.hid (HT6.out.below hb68 hb68.size)
      have HE8 := Lib.hid (HE6.out.below hb68 hb68.size)
      clear hv hb8 p0 p1 p2 p3 p4 p5 u0 u1 u2 u3 u4 u5 hb48 hb68
      have hA8 := HA8.out
      have hX8 := HX8.out
      have p0 : w8.cell? ⟨W.heap.size, 0, none⟩ = some (.int .i64 op1) := (cell_of_block hA8 0).trans rfl
      have p1 : w8.cell? ⟨W.heap.size, 1, none⟩ = some (.int .i64 x1) := (cell_of_block hA8 1).trans rfl
      have p2 : w8.cell? ⟨W.heap.size, 2, none⟩ = some (.int .i64 y1) := (cell_of_block hA8 2).trans rfl
      have p3 : w8.cell? ⟨W.heap.size, 3, none⟩ = some (.int .i64 n1) := (cell_of_block hA8 3).trans rfl
      have p4 : w8.cell? ⟨W.heap.size, 4, none⟩ = some (.slice At1 t1.len ct1) := (cell_of_block hA8 4).trans rfl
      have p5 : w8.cell? ⟨W.heap.size, 5, none⟩ = some (.slice Ae1 e1.len ce1) := (cell_of_block hA8 5).trans rfl
      have u0 : w8.cell? ⟨w4.heap.size, 0, none⟩ = some (.int .i64 op1) := (cell_of_block hX8 0).trans rfl
      have u1 : w8.cell? ⟨w4.heap.size, 1, none⟩ = some (.int .i64 x1) := (cell_of_block hX8 1).trans rfl
      have u2 : w8.cell? ⟨w4.heap.size, 2, none⟩ = some (.int .i64 y1) := (cell_of_block hX8 2).trans rfl
      have u3 : w8.cell? ⟨w4.heap.size, 3, none⟩ = some (.int .i64 n1) := (cell_of_block hX8 3).trans rfl
      have u4 : w8.cell? ⟨w4.heap.size, 4, none⟩ = some (.slice (some ⟨k1, 0, none⟩) t1.len t1.len) := (cell_of_block hX8 4).trans rfl
      have u5 : w8.cell? ⟨w4.heap.size, 5, none⟩ = some (.slice (some ⟨k2, 0, none⟩) e1.len e1.len) := (cell_of_block hX8 5).trans rfl
      clear hA8 hX8
      go_wp2_with fail
      go_region_held3 (fun w' => Below w8.heap.size w8 w' ∧ w'.cell? ⟨W.heap.size, 0, none⟩ = some (.int .i64 op1) ∧ w'.cell? ⟨W.heap.size, 1, none⟩ = some (.int .i64 x1) ∧ w'.cell? ⟨W.heap.size, 2, none⟩ = some (.int .i64 y1) ∧ w'.cell? ⟨W.heap.size, 3, none⟩ = some (.int .i64 n1) ∧ w'.cell? ⟨W.heap.size, 4, none⟩ = some (.slice At1 t1.len ct1) ∧ w'.cell? ⟨W.heap.size, 5, none⟩ = some (.slice Ae1 e1.len ce1) ∧ w'.cell? ⟨w4.heap.size, 0, none⟩ = some (.int .i64 op1) ∧ w'.cell? ⟨w4.heap.size, 1, none⟩ = some (.int .i64 x1) ∧ w'.cell? ⟨w4.heap.size, 2, none⟩ = some (.int .i64 y1) ∧ w'.cell? ⟨w4.heap.size, 3, none⟩ = some (.int .i64 n1) ∧ w'.cell? ⟨w4.heap.size, 4, none⟩ = some (.slice (some ⟨k1, 0, none⟩) t1.len t1.len) ∧ w'.cell? ⟨w4.heap.size, 5, none⟩ = some (.slice (some ⟨k2, 0, none⟩) e1.len e1.len))
        (first | exact ⟨(Below.refl w8.heap.size w8).drew, p0, p1, p2, p3, p4, p5, u0, u1, u2, u3, u4, u5⟩ | exact held_2 hbn (And.left ‹Below w8.heap.size w8 _ ∧ _›) rfl (by omega) (by omega) p0 p1 p2 p3 p4 p5 u0 u1 u2 u3 u4 u5)
        (first
          | (go_at_call 11; refine (toStmt_all op1 x1 y1 n1 t1 e1 At1 Ae1 ct1 ce1 _ (by omega) (by omega) ?_ ?_).mono ?_; (have hbx := And.left ‹Below w8.heap.size w8 _ ∧ _›; exact hRt1.below (hbb8.trans (hbx.mono (by omega))) (by have := hbx.size; omega)); (have hbx := And.left ‹Below w8.heap.size w8 _ ∧ _›; exact hRe1.below (hbb8.trans (hbx.mono (by omega))) (by have := hbx.size; omega)); rintro E w' ⟨j1, j2, rfl, hT9, hE9, hbn⟩)
          | (go_at_call 14; refine (eqStmt_all op1 x1 y1 n1 t1 e1 _ _ _ _ _ _ _ _ _ ?_ ?_ (hT9.keep (Nat.zero_le _) (Nat.le_refl _) fun _ _ _ => rfl) (hE9.keep (Nat.zero_le _) (Nat.le_refl _) fun _ _ _ => rfl)).mono ?_; (have hbx := And.left ‹Below w8.heap.size w8 _ ∧ _›; exact hT8.below hbx hbx.size); (have hbx := And.left ‹Below w8.heap.size w8 _ ∧ _›; exact hE8.below hbx hbx.size); rintro E w' ⟨rfl, hbn⟩))
      obtain ⟨hbl, -⟩ := ‹Below w8.heap.size w8 _ ∧ _›
      obtain ⟨w9, hw9⟩ : ∃ q, w' = q := ⟨_, rfl⟩
      rw [hw9] at hbl ⊢
      have hs9 := hbl.size
      have HB9 := Lib.hid ((hbl.block (W.heap.size + 1) (by omega)).trans HB8.out)
      have HY9 := Lib.hid ((hbl.block w6.heap.size (by omega)).trans HY8.out)
      have hbb9 : Below W.heap.size W w9 := hbb8.trans (hbl.mono (by omega))
      have hT9b := HT8.out.below hbl hbl.size
      have hE9b := HE8.out.below hbl hbl.size
      have hB9 := HB9.out
      have hY9 := HY9.out
      clear hT9 hE9 hbn hbl p0 p1 p2 p3 p4 p5 u0 u1 u2 u3 u4 u5 hT8 hE8 hw9
      have p0 : w9.cell? ⟨(W.heap.size + 1), 0, none⟩ = some (.int .i64 op2) := (cell_of_block hB9 0).trans rfl
      have p1 : w9.cell? ⟨(W.heap.size + 1), 1, none⟩ = some (.int .i64 x2) := (cell_of_block hB9 1).trans rfl
      have p2 : w9.cell? ⟨(W.heap.size + 1), 2, none⟩ = some (.int .i64 y2) := (cell_of_block hB9 2).trans rfl
      have p3 : w9.cell? ⟨(W.heap.size + 1), 3, none⟩ = some (.int .i64 n2) := (cell_of_block hB9 3).trans rfl
      have p4 : w9.cell? ⟨(W.heap.size + 1), 4, none⟩ = some (.slice At2 t2.len ct2) := (cell_of_block hB9 4).trans rfl
      have p5 : w9.cell? ⟨(W.heap.size + 1), 5, none⟩ = some (.slice Ae2 e2.len ce2) := (cell_of_block hB9 5).trans rfl
      have u0 : w9.cell? ⟨w6.heap.size, 0, none⟩ = some (.int .i64 op2) := (cell_of_block hY9 0).trans rfl
      have u1 : w9.cell? ⟨w6.heap.size, 1, none⟩ = some (.int .i64 x2) := (cell_of_block hY9 1).trans rfl
      have u2 : w9.cell? ⟨w6.heap.size, 2, none⟩ = some (.int .i64 y2) := (cell_of_block hY9 2).trans rfl
      have u3 : w9.cell? ⟨w6.heap.size, 3, none⟩ = some (.int .i64 n2) := (cell_of_block hY9 3).trans rfl
      have u4 : w9.cell? ⟨w6.heap.size, 4, none⟩ = some (.slice (some ⟨m1, 0, none⟩) t2.len t2.len) := (cell_of_block hY9 4).trans rfl
      have u5 : w9.cell? ⟨w6.heap.size, 5, none⟩ = some (.slice (some ⟨m2, 0, none⟩) e2.len e2.len) := (cell_of_block hY9 5).trans rfl
      clear hB9 hY9
      go_wp2_with fail
      go_region_held3 (fun w' => Below w9.heap.size w9 w' ∧ w'.cell? ⟨(W.heap.size + 1), 0, none⟩ = some (.int .i64 op2) ∧ w'.cell? ⟨(W.heap.size + 1), 1, none⟩ = some (.int .i64 x2) ∧ w'.cell? ⟨(W.heap.size + 1), 2, none⟩ = some (.int .i64 y2) ∧ w'.cell? ⟨(W.heap.size + 1), 3, none⟩ = some (.int .i64 n2) ∧ w'.cell? ⟨(W.heap.size + 1), 4, none⟩ = some (.slice At2 t2.len ct2) ∧ w'.cell? ⟨(W.heap.size + 1), 5, none⟩ = some (.slice Ae2 e2.len ce2) ∧ w'.cell? ⟨w6.heap.size, 0, none⟩ = some (.int .i64 op2) ∧ w'.cell? ⟨w6.heap.size, 1, none⟩ = some (.int .i64 x2) ∧ w'.cell? ⟨w6.heap.size, 2, none⟩ = some (.int .i64 y2) ∧ w'.cell? ⟨w6.heap.size, 3, none⟩ = some (.int .i64 n2) ∧ w'.cell? ⟨w6.heap.size, 4, none⟩ = some (.slice (some ⟨m1, 0, none⟩) t2.len t2.len) ∧ w'.cell? ⟨w6.heap.size, 5, none⟩ = some (.slice (some ⟨m2, 0, none⟩) e2.len e2.len))
        (first | exact ⟨(Below.refl w9.heap.size w9).drew, p0, p1, p2, p3, p4, p5, u0, u1, u2, u3, u4, u5⟩ | exact held_2 hbn (And.left ‹Below w9.heap.size w9 _ ∧ _›) rfl (by omega) (by omega) p0 p1 p2 p3 p4 p5 u0 u1 u2 u3 u4 u5)
        (first
          | (go_at_call 11; refine (toStmt_all op2 x2 y2 n2 t2 e2 At2 Ae2 ct2 ce2 _ (by omega) (by omega) ?_ ?_).mono ?_; (have hbx := And.left ‹Below w9.heap.size w9 _ ∧ _›; exact hRt2.below (hbb9.trans (hbx.mono (by omega))) (by have := hbx.size; omega)); (have hbx := And.left ‹Below w9.heap.size w9 _ ∧ _›; exact hRe2.below (hbb9.trans (hbx.mono (by omega))) (by have := hbx.size; omega)); rintro E w' ⟨j3, j4, rfl, hTc, hEc, hbn⟩)
          | (go_at_call 14; refine (eqStmt_all op2 x2 y2 n2 t2 e2 _ _ _ _ _ _ _ _ _ ?_ ?_ (hTc.keep (Nat.zero_le _) (Nat.le_refl _) fun _ _ _ => rfl) (hEc.keep (Nat.zero_le _) (Nat.le_refl _) fun _ _ _ => rfl)).mono ?_; (have hbx := And.left ‹Below w9.heap.size w9 _ ∧ _›; exact hT9b.below hbx hbx.size); (have hbx := And.left ‹Below w9.heap.size w9 _ ∧ _›; exact hE9b.below hbx hbx.size); rintro E w' ⟨rfl, hbn⟩))
      obtain ⟨hbl, -⟩ := ‹Below w9.heap.size w9 _ ∧ _›
      have hbbl := Lib.hid (hbb9.trans (hbl.mono (by have := hbb9.size; omega)))
      clear hTc hEc hbn hbl p0 p1 p2 p3 p4 p5 u0 u1 u2 u3 u4 u5 hT9b hE9b
      go_wp2_with fail
      go_ret
      exact ⟨rfl, hbbl.out⟩
    · have hsub : subI L1 (t2.size + e2.size) = -1 := if_neg hsz2
      rw [hsub] at he
      subst he
      go_wp2_with fail
      go_ret
      exact ⟨rfl, hbb2⟩
  · have hsub : subI 1048576 (t1.size + e1.size) = -1 := if_neg (by omega)
    rw [hsub] at he
    subst he
    go_wp2_with fail
    go_ret
    exact ⟨rfl, hb0.trans (hb1.mono (by omega))⟩

theorem own : ownKnob Try.prog.godebug = none := by kernel_rfl
theorem laidOut : laidOutB Try.prog = true := by kernel_rfl

set_option maxRecDepth 100000 in
theorem lifted (os : Os) (started : os.Started) (H : Type) (enc : TypeId × Value → H) :
    ReturnsInHanded {} Try.checked os 4 .any (Rows.fnExactVarsApartSpec.pre6 enc Try.prog Try.f4 Rows.fnExactVarsApartRow.domain false) (Rows.fnExactVarsApartSpec.post enc Try.prog Try.f4 false true false false) := by
  refine returnsInHanded_of_change (C := Try.checked) own started (by kernel_rfl) Try.func4
    (ChangeSpec.witness6 (enc := enc) (C := Try.checked) false ⟨#[], #[.agg #[.int .i64 0, .int .i64 0, .int .i64 0, .int .i64 0, .slice none 0 0, .slice none 0 0], .agg #[.int .i64 0, .int .i64 0, .int .i64 0, .int .i64 0, .slice none 0 0, .slice none 0 0]], []⟩ 8 (by kernel_rfl) (by kernel_rfl) (by kernel_rfl) (by kernel_rfl)) ?_
  intro W base args ds gs before hval0 hW hcnd _
  have hval : ∀ (j : Nat) t v, Try.f4.params[j]? = some t → args[j]? = some v → Value.okWide Try.prog W .any base t v := hval0
  have hW' := hW
  obtain ⟨p, q, hA0, hV, rfl, hfz, hnd⟩ := hW
  have hA : DataW.TrodAll enc Try.prog W 0 (fun _ => true) true Try.f4.params.toList args.toList ds p := hA0
  rw [Try.params4] at hA hval
  obtain ⟨v0, vs0, d0, ds0, p0, q0, hargs, rfl, rfl, h0, r0⟩ := trodAll_cons hA
  obtain ⟨v1, vs1, d1, ds1, p1, q1, rfl, rfl, rfl, h1, r1⟩ := trodAll_cons r0
  obtain ⟨rfl, rfl, rfl⟩ := trodAll_nil r1
  obtain rfl : args = #[v0, v1] := by cases args; simp_all
  obtain ⟨rfl, rfl⟩ := trodVars_none hV
  have k0 := h0
  have lt0 : ∀ x ∈ p0, x.block < W.heap.size := by obtain ⟨m, hm⟩ := k0; exact DataW.trod_lt m _ _ _ hm
  obtain ⟨cells0, rfl, hsz0⟩ := okWide_struct Try.underlying24 (hval 0 24 v0 rfl rfl)
  obtain ⟨cl0⟩ := cells0
  obtain ⟨fu0, hf0⟩ := h0
  obtain ⟨op0, x0, y0, nn0, t0, e0, At0, ct0, Ae0, ce0, hv0, hRt0, hRe0⟩ := read_stmt hf0 (fun m _ v x => read_stmts m v x)
  have hv0' : cl0 = [.int .i64 op0, .int .i64 x0, .int .i64 y0, .int .i64 nn0, .slice At0 t0.len ct0, .slice Ae0 e0.len ce0] := hv0
  subst hv0'
  have k1 := h1
  have lt1 : ∀ x ∈ p1, x.block < W.heap.size := by obtain ⟨m, hm⟩ := k1; exact DataW.trod_lt m _ _ _ hm
  obtain ⟨cells1, rfl, hsz1⟩ := okWide_struct Try.underlying24 (hval 1 24 v1 rfl rfl)
  obtain ⟨cl1⟩ := cells1
  obtain ⟨fu1, hf1⟩ := h1
  obtain ⟨op1, x1, y1, nn1, t1, e1, At1, ct1, Ae1, ce1, hv1, hRt1, hRe1⟩ := read_stmt hf1 (fun m _ v x => read_stmts m v x)
  have hv1' : cl1 = [.int .i64 op1, .int .i64 x1, .int .i64 y1, .int .i64 nn1, .slice At1 t1.len ct1, .slice Ae1 e1.len ce1] := hv1
  subst hv1'
  clear hA0 hval0
  simp only [List.append_nil] at hW'
  refine (walk op0 x0 y0 nn0 t0 e0 At0 Ae0 ct0 ce0 op1 x1 y1 nn1 t1 e1 At1 Ae1 ct1 ce1 W hRt0 hRe0 hRt1 hRe1).mono fun e W' ⟨he, bel⟩ => ?_
  subst he
  exact ⟨_, rfl, _, _, _, [], _, [], hW', trodAll_mk1 (shut_bool Try.underlying4 _), (trodAll_cons_mk (Below.trod laidOut (by kernel_rfl) (of_decide_eq_true (by kernel_rfl)) k0 bel lt0) (trodAll_cons_mk (Below.trod laidOut (by kernel_rfl) (of_decide_eq_true (by kernel_rfl)) k1 bel lt1) trodAll_mk0)), rfl, bel.frame _, fun h => by cases h⟩

theorem over : Rows.fnExactVarsApartRow.holds Try.pinned (OpenSpec.ofChange Rows.fnExactVarsApartSpec) :=
  OpenClaim.holds_of_wide 4 Try.f4 rfl rfl rfl rfl rfl rfl rfl ⟨rfl, rfl, rfl, rfl, rfl⟩ rfl rfl rfl rfl rfl (by kernel_rfl) Try.func4 (by kernel_rfl)
    (of_decide_eq_true (by kernel_rfl)) (by unfold Func.isWrapper; first | (rw [if_pos (by decide +kernel)]; kernel_rfl) | (rw [if_neg (by decide +kernel)]; exact ⟨rfl, rfl⟩))
    (fun os started H enc _ => lifted os started H enc)

theorem proved : Rows.FnExactVarsApartSaid :=
  over
#print axioms proved
end Go.Proofs.Ytfjfbooiegjplaa.fnVarsApart
