/-
  At every statement, VarsOf of the program answers as its model does, writes into nothing, and its answer is its own. Conditions: none.
-/
import Derived.Test.YtfjfbooiegjplaaStAll
import Derived.Test.YtfjfbooiegjplaaMarkS1
import Derived.Test.YtfjfbooiegjplaaVarsS2
import Derived.Test.YtfjfbooiegjplaaRead
import Derived.Deep.RegionHeld3
namespace Go.Proofs.Ytfjfbooiegjplaa.fnVarsOf
open Go.ChangeShapes Go.WideShapes Go.ChangeAt Go.RowKit Go.Deep Go.Joins
set_option linter.unusedVariables false

theorem held_12 {B X K : Nat} {w1 wo w' : World} {b0 b1 b2 b3 b4 b5 x0 x1 x2 x3 x4 x5 : Value} (hb : Below wo.heap.size wo w') (h : Below K w1 wo) (hK : K = w1.heap.size) (hB : B < w1.heap.size) (hX : X < w1.heap.size)
    (q0 : w1.cell? ⟨B, 0, none⟩ = some b0) (q1 : w1.cell? ⟨B, 1, none⟩ = some b1) (q2 : w1.cell? ⟨B, 2, none⟩ = some b2) (q3 : w1.cell? ⟨B, 3, none⟩ = some b3) (q4 : w1.cell? ⟨B, 4, none⟩ = some b4) (q5 : w1.cell? ⟨B, 5, none⟩ = some b5) (z0 : w1.cell? ⟨X, 0, none⟩ = some x0) (z1 : w1.cell? ⟨X, 1, none⟩ = some x1) (z2 : w1.cell? ⟨X, 2, none⟩ = some x2) (z3 : w1.cell? ⟨X, 3, none⟩ = some x3) (z4 : w1.cell? ⟨X, 4, none⟩ = some x4) (z5 : w1.cell? ⟨X, 5, none⟩ = some x5) :
    Below K w1 w' ∧ w'.cell? ⟨B, 0, none⟩ = some b0 ∧ w'.cell? ⟨B, 1, none⟩ = some b1 ∧ w'.cell? ⟨B, 2, none⟩ = some b2 ∧ w'.cell? ⟨B, 3, none⟩ = some b3 ∧ w'.cell? ⟨B, 4, none⟩ = some b4 ∧ w'.cell? ⟨B, 5, none⟩ = some b5 ∧ w'.cell? ⟨X, 0, none⟩ = some x0 ∧ w'.cell? ⟨X, 1, none⟩ = some x1 ∧ w'.cell? ⟨X, 2, none⟩ = some x2 ∧ w'.cell? ⟨X, 3, none⟩ = some x3 ∧ w'.cell? ⟨X, 4, none⟩ = some x4 ∧ w'.cell? ⟨X, 5, none⟩ = some x5 := by
  subst hK
  have hbb : Below w1.heap.size w1 w' := h.trans (hb.mono h.size)
  exact ⟨hbb, (hbb.cell hB).trans q0, (hbb.cell hB).trans q1, (hbb.cell hB).trans q2, (hbb.cell hB).trans q3, (hbb.cell hB).trans q4, (hbb.cell hB).trans q5, (hbb.cell hX).trans z0, (hbb.cell hX).trans z1, (hbb.cell hX).trans z2, (hbb.cell hX).trans z3, (hbb.cell hX).trans z4, (hbb.cell hX).trans z5⟩

set_option maxRecDepth 100000 in
set_option maxHeartbeats 8000000 in
theorem walk (op x y n : Int) (t e : Sts) (At Ae : Option Addr) (ct ce : Nat) (W : World) (hRt : RepV W 0 W.heap.size t At ct) (hRe : RepV W 0 W.heap.size e Ae ce) :
    Calls Try.prog 3 #[.agg #[.int .i64 op, .int .i64 x, .int .i64 y, .int .i64 n, .slice At t.len ct, .slice Ae e.len ce]] W fun E w' => E = .returned (.bool true) ∧ Below W.heap.size W w' := by
  have hb0 := (Below.refl W.heap.size W).alloc (Nat.le_refl _) (.cells #[.int .i64 op, .int .i64 x, .int .i64 y, .int .i64 n, .slice At t.len ct, .slice Ae e.len ce] 24)
  have hz0 : (W.alloc (.cells #[.int .i64 op, .int .i64 x, .int .i64 y, .int .i64 n, .slice At t.len ct, .slice Ae e.len ce] 24)).heap.size = W.heap.size + 1 := by simp
  have hRt0 : RepV (W.alloc (.cells #[.int .i64 op, .int .i64 x, .int .i64 y, .int .i64 n, .slice At t.len ct, .slice Ae e.len ce] 24)) 0 (W.alloc (.cells #[.int .i64 op, .int .i64 x, .int .i64 y, .int .i64 n, .slice At t.len ct, .slice Ae e.len ce] 24)).heap.size t At ct := hRt.below hb0 (by simp)
  have hRe0 : RepV (W.alloc (.cells #[.int .i64 op, .int .i64 x, .int .i64 y, .int .i64 n, .slice At t.len ct, .slice Ae e.len ce] 24)) 0 (W.alloc (.cells #[.int .i64 op, .int .i64 x, .int .i64 y, .int .i64 n, .slice At t.len ct, .slice Ae e.len ce] 24)).heap.size e Ae ce := hRe.below hb0 (by simp)
  have hB := heap_alloc_new W (.cells #[.int .i64 op, .int .i64 x, .int .i64 y, .int .i64 n, .slice At t.len ct, .slice Ae e.len ce] 24)
  have HB := Lib.hid hB
  have HZ := Lib.hid hz0
  clear hB hz0
  by_cases hsz : t.size + e.size ≤ 1048576
  · have hsub : Hid (subI 1048576 (t.size + e.size) = 1048576 - (t.size + e.size : Nat)) := if_pos (by omega)
    go_enter Try.func3, Try.ntmps3
    go_wp2_with fail
    refine (szStmt_all op x y n t e At Ae ct ce 1048576 _ (by omega) (by omega) hRt0 hRe0).mono ?_
    rintro E w1 ⟨he, hb1⟩
    rw [hsub.out] at he
    subst he
    rw [HZ.out] at hb1
    have hs1 := hb1.size
    rw [HZ.out] at hs1
    have hB1 := (hb1.block W.heap.size (by omega)).trans HB.out
    have p0 : w1.cell? ⟨W.heap.size, 0, none⟩ = some (.int .i64 op) := (cell_of_block hB1 0).trans rfl
    have p1 : w1.cell? ⟨W.heap.size, 1, none⟩ = some (.int .i64 x) := (cell_of_block hB1 1).trans rfl
    have p2 : w1.cell? ⟨W.heap.size, 2, none⟩ = some (.int .i64 y) := (cell_of_block hB1 2).trans rfl
    have p3 : w1.cell? ⟨W.heap.size, 3, none⟩ = some (.int .i64 n) := (cell_of_block hB1 3).trans rfl
    have p4 : w1.cell? ⟨W.heap.size, 4, none⟩ = some (.slice At t.len ct) := (cell_of_block hB1 4).trans rfl
    have p5 : w1.cell? ⟨W.heap.size, 5, none⟩ = some (.slice Ae e.len ce) := (cell_of_block hB1 5).trans rfl
    have hbb1 : Below W.heap.size W w1 := hb0.trans (hb1.mono (by omega))
    have HB1 := Lib.hid hB1
    clear hB1 hb1 hRt0 hRe0
    go_wp2_with fail
    refine (toStmt_all op x y n t e At Ae ct ce w1 (by omega) (by omega) (hRt.below hbb1 hbb1.size) (hRe.below hbb1 hbb1.size)).mono ?_
    rintro E w2 ⟨g1, g2, rfl, hT2, hE2, hb2⟩
    have hs2 := hb2.size
    have HB2 := Lib.hid ((hb2.block W.heap.size (by omega)).trans HB1.out)
    have hbb2 : Below W.heap.size W w2 := hbb1.trans (hb2.mono (by omega))
    have HT2 := Lib.hid (hT2.keep (Nat.zero_le _) (Nat.le_refl _) fun _ _ _ => rfl)
    have HE2 := Lib.hid (hE2.keep (Nat.zero_le _) (Nat.le_refl _) fun _ _ _ => rfl)
    clear hb2 hT2 hE2 p0 p1 p2 p3 p4 p5
    go_wp2_with fail
    refine (specVarsOf_any op x y n t e _ _ _ _ w2 HT2.out HE2.out (by omega)).mono ?_
    rintro E w3 ⟨vs, rfl, hvs, hb3⟩
    obtain ⟨rl, hrl⟩ : ∃ rl, (outV (fun v => ownB op x y v || varS t v || varS e v) 6) = rl := ⟨_, rfl⟩
    have hrl6 : rl.length ≤ 6 := by rw [← hrl]; exact outV_len _ _
    rw [hrl] at hvs
    have HRL := Lib.hid hrl
    have hs3 := hb3.size
    have HVS := Lib.hid hvs
    have hvso := Lib.hid hvs.lt
    have hB3 := (hb3.block W.heap.size (by omega)).trans HB2.out
    have p0 : w3.cell? ⟨W.heap.size, 0, none⟩ = some (.int .i64 op) := (cell_of_block hB3 0).trans rfl
    have p1 : w3.cell? ⟨W.heap.size, 1, none⟩ = some (.int .i64 x) := (cell_of_block hB3 1).trans rfl
    have p2 : w3.cell? ⟨W.heap.size, 2, none⟩ = some (.int .i64 y) := (cell_of_block hB3 2).trans rfl
    have p3 : w3.cell? ⟨W.heap.size, 3, none⟩ = some (.int .i64 n) := (cell_of_block hB3 3).trans rfl
    have p4 : w3.cell? ⟨W.heap.size, 4, none⟩ = some (.slice At t.len ct) := (cell_of_block hB3 4).trans rfl
    have p5 : w3.cell? ⟨W.heap.size, 5, none⟩ = some (.slice Ae e.len ce) := (cell_of_block hB3 5).trans rfl
    have hbb3 : Below W.heap.size W w3 := hbb2.trans (hb3.mono (by omega))
    have HB3 := Lib.hid hB3
    clear hB3 hb3 hvs hrl HT2 HE2
    go_wp2_with fail
    refine (toStmt_sall op x y n t e At Ae ct ce w3 (by omega) (by omega) (hRt.below hbb3 hbb3.size) (hRe.below hbb3 hbb3.size)).mono ?_
    rintro E w4 ⟨⟨k1, k2, rfl, hT4, hE4, hb4⟩, hsf4⟩
    have hs4 := hb4.size
    have HB4 := Lib.hid ((hb4.block W.heap.size (by omega)).trans HB3.out)
    have hbb4 : Below W.heap.size W w4 := hbb3.trans (hb4.mono (by omega))
    have HT4 := Lib.hid hT4
    have HE4 := Lib.hid hE4
    have HF4 := Lib.hid hsf4
    have HVS4 := Lib.hid (HVS.out.below hb4)
    clear hb4 p0 p1 p2 p3 p4 p5 hT4 hE4 hsf4
    have hba := (Below.refl w4.heap.size w4).alloc (Nat.le_refl _) (.cells #[.int .i64 op, .int .i64 x, .int .i64 y, .int .i64 n, .slice (some ⟨k1, 0, none⟩) t.len t.len, .slice (some ⟨k2, 0, none⟩) e.len e.len] 30)
    have hza : (w4.alloc (.cells #[.int .i64 op, .int .i64 x, .int .i64 y, .int .i64 n, .slice (some ⟨k1, 0, none⟩) t.len t.len, .slice (some ⟨k2, 0, none⟩) e.len e.len] 30)).heap.size = w4.heap.size + 1 := by simp
    have hXa := heap_alloc_new w4 (.cells #[.int .i64 op, .int .i64 x, .int .i64 y, .int .i64 n, .slice (some ⟨k1, 0, none⟩) t.len t.len, .slice (some ⟨k2, 0, none⟩) e.len e.len] 30)
    have hbb4a : Below W.heap.size W (w4.alloc (.cells #[.int .i64 op, .int .i64 x, .int .i64 y, .int .i64 n, .slice (some ⟨k1, 0, none⟩) t.len t.len, .slice (some ⟨k2, 0, none⟩) e.len e.len] 30)) := hbb4.trans (hba.mono (by omega))
    obtain ⟨w5, hw5⟩ : ∃ z, w4.alloc (.cells #[.int .i64 op, .int .i64 x, .int .i64 y, .int .i64 n, .slice (some ⟨k1, 0, none⟩) t.len t.len, .slice (some ⟨k2, 0, none⟩) e.len e.len] 30) = z := ⟨_, rfl⟩
    rw [hw5] at hba hza hXa hbb4a
    have x0 : w5.cell? ⟨w4.heap.size, 0, none⟩ = some (.int .i64 op) := (cell_of_block hXa 0).trans rfl
    have x1 : w5.cell? ⟨w4.heap.size, 1, none⟩ = some (.int .i64 x) := (cell_of_block hXa 1).trans rfl
    have x2 : w5.cell? ⟨w4.heap.size, 2, none⟩ = some (.int .i64 y) := (cell_of_block hXa 2).trans rfl
    have x3 : w5.cell? ⟨w4.heap.size, 3, none⟩ = some (.int .i64 n) := (cell_of_block hXa 3).trans rfl
    have x4 : w5.cell? ⟨w4.heap.size, 4, none⟩ = some (.slice (some ⟨k1, 0, none⟩) t.len t.len) := (cell_of_block hXa 4).trans rfl
    have x5 : w5.cell? ⟨w4.heap.size, 5, none⟩ = some (.slice (some ⟨k2, 0, none⟩) e.len e.len) := (cell_of_block hXa 5).trans rfl
    have HXA := Lib.hid hXa
    have HBA := Lib.hid hba
    have HB5 := Lib.hid ((hba.block W.heap.size (by omega)).trans HB4.out)
    have hsf5 : ∀ p : Addr, w3.heap.size ≤ p.block → p.block < w4.heap.size → w5.frozen? p = false := fun p h1 h2 => (hba.frozen h2).trans (HF4.out p.block p.off h1)
    have hT5 : RepV w5 w3.heap.size w4.heap.size t (some ⟨k1, 0, none⟩) t.len := HT4.out.keep (Nat.le_refl _) (Nat.le_refl _) fun p _ h2 => hba.cell h2
    have hE5 : RepV w5 w3.heap.size w4.heap.size e (some ⟨k2, 0, none⟩) e.len := HE4.out.keep (Nat.le_refl _) (Nat.le_refl _) fun p _ h2 => hba.cell h2
    have HVS5 := Lib.hid (HVS4.out.below hba)
    clear hba hXa
    go_wp2_with fail
    clear hw5
    refine (implVarsOf_any op x y n t e _ _ _ _ w3.heap.size w4.heap.size w5 hT5 hE5 (by omega) hsf5 (by omega)).mono ?_
    rintro E w6 ⟨vg, rfl, hvg, hb6⟩
    rw [HRL.out] at hvg
    have hs6 := hb6.size
    have HVG := Lib.hid hvg
    have hvgo := Lib.hid hvg.lt
    have HVS6 := Lib.hid (HVS5.out.below hb6)
    have hb46 : Below w4.heap.size w4 w6 := HBA.out.trans (hb6.mono (by omega))
    have hbb6 : Below W.heap.size W w6 := hbb4a.trans (hb6.mono (by omega))
    have HB6 := Lib.hid ((hb6.block W.heap.size (by omega)).trans HB5.out)
    have HX6 := Lib.hid ((hb6.block w4.heap.size (by omega)).trans HXA.out)
    obtain ⟨Ag, cg, hvgs, hIg⟩ := HVG.out.ints
    obtain ⟨Avs, cvs, hvss, hIs⟩ := HVS6.out.ints
    subst hvgs hvss
    have HIg := Lib.hid hIg
    have HIs := Lib.hid hIs
    clear hvg hIg hIs x0 x1 x2 x3 x4 x5 hT5 hE5 hsf5 hb6
    go_wp2_with fail
    refine (eqIntS_any rl _ _ _ _ w6 HIg.out HIs.out).mono ?_
    rintro E w7 ⟨rfl, hb7⟩
    have hs7 := hb7.size
    have hB7 := (hb7.block W.heap.size (by omega)).trans HB6.out
    have hX7 := (hb7.block w4.heap.size (by omega)).trans HX6.out
    have hb47 : Below w4.heap.size w4 w7 := hb46.trans (hb7.mono (by omega))
    have hbb7 : Below W.heap.size W w7 := hbb6.trans (hb7.mono (by omega))
    have hT7 : RepV w7 0 w7.heap.size t (some ⟨k1, 0, none⟩) t.len := HT4.out.below hb47 hb47.size
    have hE7 : RepV w7 0 w7.heap.size e (some ⟨k2, 0, none⟩) e.len := HE4.out.below hb47 hb47.size
    have HB7 := Lib.hid hB7
    have HX7 := Lib.hid hX7
    have HVG7 := Lib.hid (HVG.out.below hb7)
    have HVS7 := Lib.hid (HVS6.out.below hb7)
    have p0 : w7.cell? ⟨W.heap.size, 0, none⟩ = some (.int .i64 op) := (cell_of_block hB7 0).trans rfl
    have p1 : w7.cell? ⟨W.heap.size, 1, none⟩ = some (.int .i64 x) := (cell_of_block hB7 1).trans rfl
    have p2 : w7.cell? ⟨W.heap.size, 2, none⟩ = some (.int .i64 y) := (cell_of_block hB7 2).trans rfl
    have p3 : w7.cell? ⟨W.heap.size, 3, none⟩ = some (.int .i64 n) := (cell_of_block hB7 3).trans rfl
    have p4 : w7.cell? ⟨W.heap.size, 4, none⟩ = some (.slice At t.len ct) := (cell_of_block hB7 4).trans rfl
    have p5 : w7.cell? ⟨W.heap.size, 5, none⟩ = some (.slice Ae e.len ce) := (cell_of_block hB7 5).trans rfl
    have x0 : w7.cell? ⟨w4.heap.size, 0, none⟩ = some (.int .i64 op) := (cell_of_block hX7 0).trans rfl
    have x1 : w7.cell? ⟨w4.heap.size, 1, none⟩ = some (.int .i64 x) := (cell_of_block hX7 1).trans rfl
    have x2 : w7.cell? ⟨w4.heap.size, 2, none⟩ = some (.int .i64 y) := (cell_of_block hX7 2).trans rfl
    have x3 : w7.cell? ⟨w4.heap.size, 3, none⟩ = some (.int .i64 n) := (cell_of_block hX7 3).trans rfl
    have x4 : w7.cell? ⟨w4.heap.size, 4, none⟩ = some (.slice (some ⟨k1, 0, none⟩) t.len t.len) := (cell_of_block hX7 4).trans rfl
    have x5 : w7.cell? ⟨w4.heap.size, 5, none⟩ = some (.slice (some ⟨k2, 0, none⟩) e.len e.len) := (cell_of_block hX7 5).trans rfl
    clear hB7 hX7 HIg HIs
    go_wp2_with fail
    go_region_held3 (fun w' => Below w7.heap.size w7 w' ∧ w'.cell? ⟨W.heap.size, 0, none⟩ = some (.int .i64 op) ∧ w'.cell? ⟨W.heap.size, 1, none⟩ = some (.int .i64 x) ∧ w'.cell? ⟨W.heap.size, 2, none⟩ = some (.int .i64 y) ∧ w'.cell? ⟨W.heap.size, 3, none⟩ = some (.int .i64 n) ∧ w'.cell? ⟨W.heap.size, 4, none⟩ = some (.slice At t.len ct) ∧ w'.cell? ⟨W.heap.size, 5, none⟩ = some (.slice Ae e.len ce) ∧ w'.cell? ⟨w4.heap.size, 0, none⟩ = some (.int .i64 op) ∧ w'.cell? ⟨w4.heap.size, 1, none⟩ = some (.int .i64 x) ∧ w'.cell? ⟨w4.heap.size, 2, none⟩ = some (.int .i64 y) ∧ w'.cell? ⟨w4.heap.size, 3, none⟩ = some (.int .i64 n) ∧ w'.cell? ⟨w4.heap.size, 4, none⟩ = some (.slice (some ⟨k1, 0, none⟩) t.len t.len) ∧ w'.cell? ⟨w4.heap.size, 5, none⟩ = some (.slice (some ⟨k2, 0, none⟩) e.len e.len))
      (first | exact ⟨(Below.refl w7.heap.size w7).drew, p0, p1, p2, p3, p4, p5, x0, x1, x2, x3, x4, x5⟩ | exact held_12 hbn (And.left ‹Below w7.heap.size w7 _ ∧ _›) rfl (by omega) (by omega) p0 p1 p2 p3 p4 p5 x0 x1 x2 x3 x4 x5)
      (first
        | (go_at_call 11; refine (toStmt_all op x y n t e At Ae ct ce _ (by omega) (by omega) ?_ ?_).mono ?_; (have hbx := And.left ‹Below w7.heap.size w7 _ ∧ _›; exact hRt.below (hbb7.trans (hbx.mono (by omega))) (by have := hbx.size; omega)); (have hbx := And.left ‹Below w7.heap.size w7 _ ∧ _›; exact hRe.below (hbb7.trans (hbx.mono (by omega))) (by have := hbx.size; omega)); rintro E w' ⟨j1, j2, rfl, hT8, hE8, hbn⟩)
        | (go_at_call 14; refine (eqStmt_all op x y n t e _ _ _ _ _ _ _ _ _ ?_ ?_ (hT8.keep (Nat.zero_le _) (Nat.le_refl _) fun _ _ _ => rfl) (hE8.keep (Nat.zero_le _) (Nat.le_refl _) fun _ _ _ => rfl)).mono ?_; (have hbx := And.left ‹Below w7.heap.size w7 _ ∧ _›; exact hT7.below hbx hbx.size); (have hbx := And.left ‹Below w7.heap.size w7 _ ∧ _›; exact hE7.below hbx hbx.size); rintro E w' ⟨rfl, hbn⟩))
    have hbl := And.left ‹Below w7.heap.size w7 _ ∧ _›
    have hsl := hbl.size
    obtain ⟨-, -, -, -, -, -, -, y0, y1, y2, y3, y4, y5⟩ := ‹Below w7.heap.size w7 _ ∧ _›
    have HBa := Lib.hid ((hbl.block W.heap.size (by omega)).trans HB7.out)
    have hb4a : Below w4.heap.size w4 w' := hb47.trans (hbl.mono (by omega))
    have hbba : Below W.heap.size W w' := hbb7.trans (hbl.mono (by omega))
    have HVGa := Lib.hid (HVG7.out.below hbl)
    have HVSa := Lib.hid (HVS7.out.below hbl)
    have hTa : RepV w' w3.heap.size w4.heap.size t (some ⟨k1, 0, none⟩) t.len := HT4.out.below' hb4a (Nat.le_refl _)
    have hEa : RepV w' w3.heap.size w4.heap.size e (some ⟨k2, 0, none⟩) e.len := HE4.out.below' hb4a (Nat.le_refl _)
    have hFa : SoftIn w3.heap.size w4.heap.size w' := fun p h1 h2 => (World.frozen?_of_block (hb4a.block p.block h2)).trans (HF4.out _ _ h1)
    have HTa := Lib.hid hTa
    have HEa := Lib.hid hEa
    have HFa := Lib.hid hFa
    have hsza := hb4a.size
    clear hTa hEa hFa hbl p0 p1 p2 p3 p4 p5 x0 x1 x2 x3 x4 x5 hT7 hE7 hT8 hE8
    clear hbn
    go_wp2_with fail
    refine (markStmt_any op x y n t e _ _ _ _ w3.heap.size w4.heap.size 1 w' (by omega) (by omega) (by omega) hsza hs4 HTa.out HEa.out HFa.out).mono ?_
    rintro E wb ⟨rfl, hspb⟩
    have hsb := hspb.size
    have HVGb := Lib.hid (HVGa.out.keep fun g hg => hspb.block g (by have := hvgo.out g hg; omega) (.inr (by have := hvgo.out g hg; omega)))
    have HVSb := Lib.hid (HVSa.out.keep fun g hg => hspb.block g (by have := hvso.out g hg; omega) (.inl (by have := hvso.out g hg; omega)))
    have HBb := Lib.hid ((hspb.block W.heap.size (by omega) (.inl (by omega))).trans HBa.out)
    have hbbb : Below W.heap.size W wb := hbba.trans (hspb.below (by omega) (by omega))
    have hkd : decide ((1 : Int) + 4 * t.size + 4 * e.size < 0) = false := decide_eq_false (by omega)
    clear hspb y0 y1 y2 y3 y4 y5
    go_wp2_with fail
    refine (eqIntS_any rl _ _ _ _ wb HVGb.out.intsV HVSb.out.intsV).mono ?_
    rintro E wd ⟨rfl, hbd⟩
    have hsd := hbd.size
    have HVGd := Lib.hid (HVGb.out.below hbd)
    have HVSd := Lib.hid (HVSb.out.below hbd)
    have HBd := Lib.hid ((hbd.block W.heap.size (by omega)).trans HBb.out)
    have hbbd : Below W.heap.size W wd := hbbb.trans (hbd.mono (by omega))
    clear hbd
    go_wp2_with fail
    refine (markIntS_val w5.heap.size _ rl 1 wd HVGd.out (by omega) (by omega) (by omega)).mono ?_
    rintro E we ⟨rfl, hmk, hbe⟩
    have hse := hbe.size
    have HMK := Lib.hid hmk
    have HVSe := Lib.hid (HVSd.out.keep fun g hg => hbe.block g (by have := hvso.out g hg; omega))
    have hBe := (hbe.block W.heap.size (by omega)).trans HBd.out
    have p0 : we.cell? ⟨W.heap.size, 0, none⟩ = some (.int .i64 op) := (cell_of_block hBe 0).trans rfl
    have p1 : we.cell? ⟨W.heap.size, 1, none⟩ = some (.int .i64 x) := (cell_of_block hBe 1).trans rfl
    have p2 : we.cell? ⟨W.heap.size, 2, none⟩ = some (.int .i64 y) := (cell_of_block hBe 2).trans rfl
    have p3 : we.cell? ⟨W.heap.size, 3, none⟩ = some (.int .i64 n) := (cell_of_block hBe 3).trans rfl
    have p4 : we.cell? ⟨W.heap.size, 4, none⟩ = some (.slice At t.len ct) := (cell_of_block hBe 4).trans rfl
    have p5 : we.cell? ⟨W.heap.size, 5, none⟩ = some (.slice Ae e.len ce) := (cell_of_block hBe 5).trans rfl
    have hbbe : Below W.heap.size W we := hbbd.trans (hbe.mono (by omega))
    clear hmk hbe hBe
    go_wp2_with fail
    refine (heldIntS_val _ rl.length 1 we HMK.out (by omega) (by omega) (by omega)).mono ?_
    rintro E w' ⟨rfl, rfl⟩
    have hq0 : ¬ (1 : Int) + rl.length < 0 := by omega
    go_wp2_with fail
    refine (toStmt_sall op x y n t e At Ae ct ce we (by omega) (by omega) (hRt.below hbbe (by omega)) (hRe.below hbbe (by omega))).mono ?_
    rintro E wf ⟨⟨j1, j2, rfl, hTf, hEf, hbf⟩, hsff⟩
    have hsf := hbf.size
    have hbbf : Below W.heap.size W wf := hbbe.trans (hbf.mono (by omega))
    have HTf := Lib.hid hTf
    have HEf := Lib.hid hEf
    have HFf : Hid (∀ p : Addr, we.heap.size ≤ p.block → p.block < wf.heap.size → wf.frozen? p = false) := fun p h1 _ => hsff p.block p.off h1
    clear hTf hEf hsff p0 p1 p2 p3 p4 p5
    go_wp2_with fail
    refine (implVarsOf_any op x y n t e _ _ _ _ we.heap.size wf.heap.size wf HTf.out HEf.out (Nat.le_refl _) HFf.out (by omega)).mono ?_
    rintro E wh ⟨vh, rfl, hvh, hbh⟩
    rw [HRL.out] at hvh
    have hsh := hbh.size
    obtain ⟨Ah, ch, hvhs, hIh⟩ := hvh.ints
    subst hvhs
    have hbeh := hbf.trans (hbh.mono (by omega))
    have HIh := Lib.hid hIh
    have HVSh := Lib.hid (HVSe.out.below hbeh)
    have hbbh : Below W.heap.size W wh := hbbf.trans (hbh.mono (by omega))
    clear hvh hIh hbh hbf
    go_wp2_with fail
    refine (eqIntS_any rl _ _ _ _ wh HIh.out HVSh.out.intsV).mono ?_
    rintro E wi ⟨rfl, hbi⟩
    have HMKi := Lib.hid (HMK.out.below (hbeh.trans (hbi.mono (by omega))))
    have hbbi : Below W.heap.size W wi := hbbh.trans (hbi.mono (by omega))
    clear hbi hbeh
    go_wp2_with fail
    refine (heldIntS_val _ rl.length 1 wi HMKi.out (by omega) (by omega) (by omega)).mono ?_
    rintro E w' ⟨rfl, rfl⟩
    go_wp2_with fail
    go_ret
    exact ⟨rfl, hbbi⟩
  · have hsub : Hid (subI 1048576 (t.size + e.size) = -1) := if_neg (by omega)
    go_enter Try.func3, Try.ntmps3
    go_wp2_with fail
    refine (szStmt_all op x y n t e At Ae ct ce 1048576 _ (by omega) (by omega) hRt0 hRe0).mono ?_
    rintro E w1 ⟨he, hb1⟩
    rw [hsub.out] at he
    subst he
    rw [HZ.out] at hb1
    go_wp2_with fail
    go_ret
    exact ⟨rfl, hb0.trans (hb1.mono (by omega))⟩

theorem own : ownKnob Try.prog.godebug = none := by kernel_rfl
theorem laidOut : laidOutB Try.prog = true := by kernel_rfl

set_option maxRecDepth 100000 in
theorem lifted (os : Os) (started : os.Started) (H : Type) (enc : TypeId × Value → H) :
    ReturnsInHanded {} Try.checked os 3 .any (Rows.fnExactVarsOfSpec.pre6 enc Try.prog Try.f3 Rows.fnExactVarsOfRow.domain false) (Rows.fnExactVarsOfSpec.post enc Try.prog Try.f3 false true false false) := by
  refine returnsInHanded_of_change (C := Try.checked) own started (by kernel_rfl) Try.func3
    (ChangeSpec.witness6 (enc := enc) (C := Try.checked) false ⟨#[], #[.agg #[.int .i64 0, .int .i64 0, .int .i64 0, .int .i64 0, .slice none 0 0, .slice none 0 0]], []⟩ 8 (by kernel_rfl) (by kernel_rfl) (by kernel_rfl) (by kernel_rfl)) ?_
  intro W base args ds gs before hval0 hW hcnd _
  have hval : ∀ (j : Nat) t v, Try.f3.params[j]? = some t → args[j]? = some v → Value.okWide Try.prog W .any base t v := hval0
  have hW' := hW
  obtain ⟨p, q, hA0, hV, rfl, hfz, hnd⟩ := hW
  have hA : DataW.TrodAll enc Try.prog W 0 (fun _ => true) true Try.f3.params.toList args.toList ds p := hA0
  rw [Try.params3] at hA hval
  obtain ⟨v0, vs0, d0, ds0, p0, q0, hargs, rfl, rfl, h0, r0⟩ := trodAll_cons hA
  obtain ⟨rfl, rfl, rfl⟩ := trodAll_nil r0
  obtain rfl : args = #[v0] := by cases args; simp_all
  obtain ⟨rfl, rfl⟩ := trodVars_none hV
  have k0 := h0
  have lt0 : ∀ x ∈ p0, x.block < W.heap.size := by obtain ⟨m, hm⟩ := k0; exact DataW.trod_lt m _ _ _ hm
  obtain ⟨cells0, rfl, hsz0⟩ := okWide_struct Try.underlying24 (hval 0 24 v0 rfl rfl)
  obtain ⟨cl0⟩ := cells0
  obtain ⟨fu0, hf0⟩ := h0
  obtain ⟨op0, x0, y0, nn0, t0, e0, At0, ct0, Ae0, ce0, hv0, hRt0, hRe0⟩ := read_stmt hf0 (fun m _ v x => read_stmts m v x)
  have hv0' : cl0 = [.int .i64 op0, .int .i64 x0, .int .i64 y0, .int .i64 nn0, .slice At0 t0.len ct0, .slice Ae0 e0.len ce0] := hv0
  subst hv0'
  clear hA0 hval0
  simp only [List.append_nil] at hW'
  refine (walk op0 x0 y0 nn0 t0 e0 At0 Ae0 ct0 ce0 W hRt0 hRe0).mono fun e W' ⟨he, bel⟩ => ?_
  subst he
  exact ⟨_, rfl, _, _, _, [], _, [], hW', trodAll_mk1 (shut_bool Try.underlying4 _), (trodAll_cons_mk (Below.trod laidOut (by kernel_rfl) (of_decide_eq_true (by kernel_rfl)) k0 bel lt0) trodAll_mk0), rfl, bel.frame _, fun h => by cases h⟩

theorem over : Rows.fnExactVarsOfRow.holds Try.pinned (OpenSpec.ofChange Rows.fnExactVarsOfSpec) :=
  OpenClaim.holds_of_wide 3 Try.f3 rfl rfl rfl rfl rfl rfl rfl ⟨rfl, rfl, rfl, rfl, rfl⟩ rfl rfl rfl rfl rfl (by kernel_rfl) Try.func3 (by kernel_rfl)
    (of_decide_eq_true (by kernel_rfl)) (by unfold Func.isWrapper; first | (rw [if_pos (by decide +kernel)]; kernel_rfl) | (rw [if_neg (by decide +kernel)]; exact ⟨rfl, rfl⟩))
    (fun os started H enc _ => lifted os started H enc)

theorem proved : Rows.FnExactVarsOfSaid :=
  over
#print axioms proved
end Go.Proofs.Ytfjfbooiegjplaa.fnVarsOf
