/-
  Whatever the bytes: a statement stays valid with a further variable, and validity is the model's. Conditions: none.
-/

import Derived.Test.YtcaklhempmlpgaaDrS
import Derived.Test.YtcaklhempmlpgaaOne0
import Derived.WalkKit
import Derived.ProofKit
import Derived.OpenShut
import Derived.Lib.SmallJoins
namespace Go.Proofs.Ytcaklhempmlpgaa.fnStmtWide
open Go.ChangeShapes Go.WideShapes Go.ChangeAt Go.RowKit Go.Deep Go.Joins
set_option linter.unusedVariables false

theorem intsV_of_block {w : World} {Q : Nat} {q : Int} (h : w.heap[Q]? = some (.cells #[.int .i64 q] 3 (0, 0))) : IntsV w 0 w.heap.size [q] (some ⟨Q, 0, none⟩) 1 := by
  refine ⟨Nat.le_refl _, by unfold maxLen; omega, fun _ => ⟨_, rfl, Nat.zero_le _, heap_lt h, fun j v hv => ?_⟩⟩
  rw [add_block, Nat.zero_add, cell_of_block h]
  match j, hv with
  | 0, hv => simp at hv; subst hv; rfl
  | j + 1, hv => simp at hv

theorem at_world {P : Program} {o : Oper} {a : Act} {K : Act → World → Prop} {Q : Exit → Act → World → Prop} {E : Prop} {c : Prop} [Decidable c] (w : World) (h : if c then Oper.wp P o a w K Q else E) : if c then Oper.wp P o a w K Q else E := h

/-- The six cells of a statement. -/
abbrev StC (SB : Nat) (u0 u1 u2 u3 u4 u5 : Value) (w : World) : Prop := w.cell? ⟨SB, 0, none⟩ = some u0 ∧ w.cell? ⟨SB, 1, none⟩ = some u1 ∧ w.cell? ⟨SB, 2, none⟩ = some u2 ∧ w.cell? ⟨SB, 3, none⟩ = some u3 ∧ w.cell? ⟨SB, 4, none⟩ = some u4 ∧ w.cell? ⟨SB, 5, none⟩ = some u5

theorem stC_mk {SB : Nat} {u0 u1 u2 u3 u4 u5 : Value} {w : World} {t : TypeId} (h : w.heap[SB]? = some (.cells #[u0, u1, u2, u3, u4, u5] t (0, 0))) : StC SB u0 u1 u2 u3 u4 u5 w :=
  ⟨(cell_of_block h 0).trans rfl, (cell_of_block h 1).trans rfl, (cell_of_block h 2).trans rfl, (cell_of_block h 3).trans rfl, (cell_of_block h 4).trans rfl, (cell_of_block h 5).trans rfl⟩

theorem tyAt_more {ts : List Int} {v : Int} (k : Int) (h : tyAt ts v ≠ 0) : tyAt (ts ++ [k]) v = tyAt ts v := by
  unfold tyAt at h ⊢
  by_cases c : v < 0 ∨ (ts.length : Int) ≤ v
  · rw [if_pos c] at h; exact absurd rfl h
  · rw [if_neg c, if_neg (by rw [List.length_append]; simp only [List.length_cons, List.length_nil]; omega)]
    simp only [List.getD_eq_getElem?_getD]
    rw [List.getElem?_append_left (by omega)]

theorem simple_more {op tx ty tx' ty' x y n : Int} (hx : tx ≠ 0 → tx' = tx) (hy : ty ≠ 0 → ty' = ty) (h : simpleB op tx ty x y n = true) : simpleB op tx' ty' x y n = true := by
  unfold simpleB at h ⊢
  split at h
  · rw [if_pos ‹_›]; simp only [decide_eq_true_eq] at h ⊢; have := hx (by omega); omega
  rw [if_neg ‹_›]
  split at h
  · rw [if_pos ‹_›]; simp only [decide_eq_true_eq] at h ⊢; have := hx (by omega); omega
  rw [if_neg ‹_›]
  split at h
  · exact absurd h (by decide)
  rw [if_neg ‹_›]
  split at h
  · rw [if_pos ‹_›]; simp only [decide_eq_true_eq] at h ⊢; have := hx (by omega); have := hy (by omega); omega
  rw [if_neg ‹_›]
  split at h
  · rw [if_pos ‹_›]; simp only [decide_eq_true_eq] at h ⊢; have := hx (by omega); have := hy (by omega); omega
  rw [if_neg ‹_›]
  split at h
  · rw [if_pos ‹_›]; simp only [decide_eq_true_eq] at h ⊢; have := hx (by omega); have := hy (by omega); omega
  rw [if_neg ‹_›]
  split at h
  · rw [if_pos ‹_›]; simp only [decide_eq_true_eq] at h ⊢; have := hx (by omega); have := hy (by omega); omega
  rw [if_neg ‹_›]
  split at h
  · rw [if_pos ‹_›]; simp only [decide_eq_true_eq] at h ⊢; have := hx (by omega); have := hy (by omega); omega
  rw [if_neg ‹_›]
  split at h
  · rw [if_pos ‹_›]; simp only [decide_eq_true_eq] at h ⊢; have := hx (by omega); omega
  exact absurd h (by decide)

theorem body_more {ts : List Int} {k : Int} (s : Sts) : ∀ d : Int, bodyB ts d s = true → bodyB (ts ++ [k]) d s = true := by
  induction s with
  | nil => intro d _; rfl
  | cons op x y n t e r iht ihe ihr =>
    intro d h
    unfold bodyB at h ⊢
    rw [Bool.and_eq_true] at h ⊢
    refine ⟨?_, ihr d h.2⟩
    have h1 := h.1
    split at h1
    · rw [if_pos ‹_›]
      rw [Bool.and_eq_true] at h1 ⊢
      exact ⟨h1.1, simple_more (tyAt_more k) (tyAt_more k) h1.2⟩
    · rw [if_neg ‹_›]
      rw [Bool.and_eq_true, Bool.and_eq_true] at h1 ⊢
      exact ⟨h1.1, iht _ h1.2.1, ihe _ h1.2.2⟩

theorem valid_more {ts : List Int} {op x y n : Int} {t e : Sts} (h6 : ts.length ≠ 6) (h : validS ts op x y n t e = true) : validS (ts ++ [1]) op x y n t e = true := by
  unfold validS typesB stmtB at h ⊢
  rw [Bool.and_eq_true, Bool.and_eq_true, Bool.and_eq_true] at h ⊢
  obtain ⟨⟨h1, h2⟩, h3, h4⟩ := h
  refine ⟨⟨?_, ?_⟩, ?_, h4⟩
  · rw [List.all_append, h1]; rfl
  · simp only [decide_eq_true_eq] at h2 ⊢
    rw [List.length_append]; simp only [List.length_cons, List.length_nil]; omega
  · split at h3
    · rw [if_pos ‹_›]
      rw [Bool.and_eq_true] at h3 ⊢
      exact ⟨h3.1, simple_more (tyAt_more 1) (tyAt_more 1) h3.2⟩
    · rw [if_neg ‹_›]
      rw [Bool.and_eq_true, Bool.and_eq_true] at h3 ⊢
      exact ⟨h3.1, body_more _ _ h3.2.1, body_more _ _ h3.2.2⟩

set_option maxRecDepth 100000 in
set_option maxHeartbeats 2000000 in
theorem walk (n0 c0 : Nat) (A0 : Option Addr) (W : World) (hB : ByteV W W.heap.size n0 A0 c0) :
    Calls Try.prog 7 #[.slice A0 n0 c0] W fun e w' => e = .returned (.bool true) ∧ Below W.heap.size W w' := by
  have hnc := hB.1
  have hcm := hB.2.1
  unfold maxLen at hcm
  by_cases hn : 1048576 < n0
  · go_enter Try.func7, Try.ntmps7
    go_wp2_with fail
    go_ret
    exact ⟨rfl, Below.refl _ _⟩
  have e1 : decide (1048576 < (n0 : Int)) = false := decide_eq_false (by omega)
  have HD := Lib.hid (drawStmtValid_any n0 c0 A0 W hB)
  clear hB
  go_enter Try.func7, Try.ntmps7
  go_wp2_with fail
  refine HD.out.mono ?_
  rintro E w1 ⟨us, At, ct, op, x, y, nn, t, e, Bt, bt, Be, be, rfl, ht1, hp1, hq1, hl1, hs1, hb1⟩
  have h1s := hb1.size
  obtain ⟨n, hn⟩ : ∃ n, us.length = n := ⟨_, rfl⟩
  obtain ⟨tl, htl⟩ : ∃ n, t.len = n := ⟨_, rfl⟩
  obtain ⟨el, hel⟩ : ∃ n, e.len = n := ⟨_, rfl⟩
  rw [hn, htl, hel]
  have HN := Lib.hid hn
  have HTL := Lib.hid htl
  have HEL := Lib.hid hel
  have HL := Lib.hid hl1
  have HSZ : Hid (t.size + e.size ≤ 1048576) := by unfold Hid; omega
  have hba := (Below.refl w1.heap.size w1).alloc (Nat.le_refl _) (.cells #[.int .i64 op, .int .i64 x, .int .i64 y, .int .i64 nn, .slice Bt tl bt, .slice Be el be] 41)
  have h2n := heap_alloc_new w1 (.cells #[.int .i64 op, .int .i64 x, .int .i64 y, .int .i64 nn, .slice Bt tl bt, .slice Be el be] 41)
  have h2z : w1.heap.size + 1 ≤ (w1.alloc (.cells #[.int .i64 op, .int .i64 x, .int .i64 y, .int .i64 nn, .slice Bt tl bt, .slice Be el be] 41)).heap.size := Nat.le_of_eq (by simp)
  obtain ⟨w2, hw2⟩ : ∃ w2, w1.alloc (.cells #[.int .i64 op, .int .i64 x, .int .i64 y, .int .i64 nn, .slice Bt tl bt, .slice Be el be] 41) = w2 := ⟨_, rfl⟩
  have T2 := Lib.hid (ht1.below hba hba.size)
  have P2 := Lib.hid (hp1.below hba hba.size)
  have Q2 := Lib.hid (hq1.below hba hba.size)
  have B2 := Lib.hid (hb1.trans (hba.mono h1s))
  rw [hw2] at T2 P2 Q2 B2 h2n h2z
  have S2 := Lib.hid h2n
  clear hn htl hel hba ht1 hp1 hq1 hs1 hl1 hb1 h2n HD
  obtain ⟨SB, hSB⟩ : ∃ SB, w1.heap.size = SB := ⟨_, rfl⟩
  rw [hSB] at S2 h2z h1s
  obtain ⟨V, hV⟩ : ∃ V, validS us op x y nn t e = V := ⟨_, rfl⟩
  have HV := Lib.hid hV
  clear hV
  have p0 : w2.cell? ⟨SB, 0, none⟩ = some (.int .i64 op) := (cell_of_block S2.out 0).trans rfl
  have p1 : w2.cell? ⟨SB, 1, none⟩ = some (.int .i64 x) := (cell_of_block S2.out 1).trans rfl
  have p2 : w2.cell? ⟨SB, 2, none⟩ = some (.int .i64 y) := (cell_of_block S2.out 2).trans rfl
  have p3 : w2.cell? ⟨SB, 3, none⟩ = some (.int .i64 nn) := (cell_of_block S2.out 3).trans rfl
  have p4 : w2.cell? ⟨SB, 4, none⟩ = some (.slice Bt tl bt) := (cell_of_block S2.out 4).trans rfl
  have p5 : w2.cell? ⟨SB, 5, none⟩ = some (.slice Be el be) := (cell_of_block S2.out 5).trans rfl
  have HC := implStmtValid_any us At ct op x y nn t e Bt Be bt be w2 T2.out P2.out Q2.out
  rw [HN.out, HTL.out, HEL.out, HV.out] at HC
  replace HC := Lib.hid HC
  go_upto_region 4 with (fail)
  clear hw2 hSB
  go_wp2_with fail
  refine HC.out.mono ?_
  rintro E w3 ⟨rfl, hb3⟩
  have hz3 := hb3.size
  have T3 := Lib.hid (T2.out.below hb3 hz3)
  have P3 := Lib.hid (P2.out.below hb3 hz3)
  have Q3 := Lib.hid (Q2.out.below hb3 hz3)
  have S3 := Lib.hid ((hb3.block SB (by omega)).trans S2.out)
  have B3 := Lib.hid (B2.out.trans (hb3.mono (by omega)))
  clear hb3 HC p0 p1 p2 p3 p4 p5
  have p0 : w3.cell? ⟨SB, 0, none⟩ = some (.int .i64 op) := (cell_of_block S3.out 0).trans rfl
  have p1 : w3.cell? ⟨SB, 1, none⟩ = some (.int .i64 x) := (cell_of_block S3.out 1).trans rfl
  have p2 : w3.cell? ⟨SB, 2, none⟩ = some (.int .i64 y) := (cell_of_block S3.out 2).trans rfl
  have p3 : w3.cell? ⟨SB, 3, none⟩ = some (.int .i64 nn) := (cell_of_block S3.out 3).trans rfl
  have p4 : w3.cell? ⟨SB, 4, none⟩ = some (.slice Bt tl bt) := (cell_of_block S3.out 4).trans rfl
  have p5 : w3.cell? ⟨SB, 5, none⟩ = some (.slice Be el be) := (cell_of_block S3.out 5).trans rfl
  have HC := specStmtValid_any us At ct op x y nn t e Bt Be bt be w3 HSZ.out T3.out P3.out Q3.out
  rw [HN.out, HTL.out, HEL.out, HV.out] at HC
  replace HC := Lib.hid HC
  go_wp2_with fail
  refine HC.out.mono ?_
  rintro E w4 ⟨rfl, hb4⟩
  have hz4 := hb4.size
  have T4 := Lib.hid (T3.out.below hb4 hz4)
  have P4 := Lib.hid (P3.out.below hb4 hz4)
  have Q4 := Lib.hid (Q3.out.below hb4 hz4)
  have S4 := Lib.hid ((hb4.block SB (by omega)).trans S3.out)
  have B4 := Lib.hid (B3.out.trans (hb4.mono (by omega)))
  clear hb4 HC p0 p1 p2 p3 p4 p5
  cases V
  · have p0 : w4.cell? ⟨SB, 0, none⟩ = some (.int .i64 op) := (cell_of_block S4.out 0).trans rfl
    have p1 : w4.cell? ⟨SB, 1, none⟩ = some (.int .i64 x) := (cell_of_block S4.out 1).trans rfl
    have p2 : w4.cell? ⟨SB, 2, none⟩ = some (.int .i64 y) := (cell_of_block S4.out 2).trans rfl
    have p3 : w4.cell? ⟨SB, 3, none⟩ = some (.int .i64 nn) := (cell_of_block S4.out 3).trans rfl
    have p4 : w4.cell? ⟨SB, 4, none⟩ = some (.slice Bt tl bt) := (cell_of_block S4.out 4).trans rfl
    have p5 : w4.cell? ⟨SB, 5, none⟩ = some (.slice Be el be) := (cell_of_block S4.out 5).trans rfl
    have HC := specStmtValid_any us At ct op x y nn t e Bt Be bt be w4 HSZ.out T4.out P4.out Q4.out
    rw [HN.out, HTL.out, HEL.out, HV.out] at HC
    replace HC := Lib.hid HC
    go_wp2_with fail
    refine HC.out.mono ?_
    rintro E w5 ⟨rfl, hb5⟩
    have hz5 := hb5.size
    have T5 := Lib.hid (T4.out.below hb5 hz5)
    have P5 := Lib.hid (P4.out.below hb5 hz5)
    have Q5 := Lib.hid (Q4.out.below hb5 hz5)
    have S5 := Lib.hid ((hb5.block SB (by omega)).trans S4.out)
    have B5 := Lib.hid (B4.out.trans (hb5.mono (by omega)))
    clear hb5 HC p0 p1 p2 p3 p4 p5
    go_wp2_with fail
    go_ret
    exact ⟨rfl, B5.out⟩
  by_cases hn6 : n = 6
  · subst hn6
    have p0 : w4.cell? ⟨SB, 0, none⟩ = some (.int .i64 op) := (cell_of_block S4.out 0).trans rfl
    have p1 : w4.cell? ⟨SB, 1, none⟩ = some (.int .i64 x) := (cell_of_block S4.out 1).trans rfl
    have p2 : w4.cell? ⟨SB, 2, none⟩ = some (.int .i64 y) := (cell_of_block S4.out 2).trans rfl
    have p3 : w4.cell? ⟨SB, 3, none⟩ = some (.int .i64 nn) := (cell_of_block S4.out 3).trans rfl
    have p4 : w4.cell? ⟨SB, 4, none⟩ = some (.slice Bt tl bt) := (cell_of_block S4.out 4).trans rfl
    have p5 : w4.cell? ⟨SB, 5, none⟩ = some (.slice Be el be) := (cell_of_block S4.out 5).trans rfl
    have HC := specStmtValid_any us At ct op x y nn t e Bt Be bt be w4 HSZ.out T4.out P4.out Q4.out
    rw [HN.out, HTL.out, HEL.out, HV.out] at HC
    replace HC := Lib.hid HC
    go_wp2_with fail
    refine HC.out.mono ?_
    rintro E w5 ⟨rfl, hb5⟩
    have hz5 := hb5.size
    have T5 := Lib.hid (T4.out.below hb5 hz5)
    have P5 := Lib.hid (P4.out.below hb5 hz5)
    have Q5 := Lib.hid (Q4.out.below hb5 hz5)
    have S5 := Lib.hid ((hb5.block SB (by omega)).trans S4.out)
    have B5 := Lib.hid (B4.out.trans (hb5.mono (by omega)))
    clear hb5 HC p0 p1 p2 p3 p4 p5
    go_wp2_with fail
    go_ret
    exact ⟨rfl, B5.out⟩
  have f6 : ((n : Int) == 6) = false := by simp; omega
  have f6' : (n == 6) = false := by simp; omega
  go_upto_region 7 with (fail)
  have hK0 : (StC SB (.int .i64 op) (.int .i64 x) (.int .i64 y) (.int .i64 nn) (.slice Bt tl bt) (.slice Be el be) w4) := stC_mk S4.out
  have hb_d : Below w4.heap.size w4 w4.drew := (Below.refl w4.heap.size w4).drew
  have hK_d : (StC SB (.int .i64 op) (.int .i64 x) (.int .i64 y) (.int .i64 nn) (.slice Bt tl bt) (.slice Be el be) w4.drew) := stC_mk ((hb_d.block SB (heap_lt S4.out)).trans S4.out)
  have hb_l : Below w4.heap.size w4 (w4.alloc (.cells #[.int .i64 1] 3)).drew := ((Below.refl w4.heap.size w4).alloc (by simp) (.cells #[.int .i64 1] 3)).drew
  have hK_l : (StC SB (.int .i64 op) (.int .i64 x) (.int .i64 y) (.int .i64 nn) (.slice Bt tl bt) (.slice Be el be) (w4.alloc (.cells #[.int .i64 1] 3)).drew) := stC_mk ((hb_l.block SB (heap_lt S4.out)).trans S4.out)
  have hb_a : Below w4.heap.size w4 (w4.alloc (.cells #[] 3)).drew := ((Below.refl w4.heap.size w4).alloc (by simp) (.cells #[] 3)).drew
  have hK_a : (StC SB (.int .i64 op) (.int .i64 x) (.int .i64 y) (.int .i64 nn) (.slice Bt tl bt) (.slice Be el be) (w4.alloc (.cells #[] 3)).drew) := stC_mk ((hb_a.block SB (heap_lt S4.out)).trans S4.out)
  have hb_b : Below w4.heap.size w4 ((w4.alloc (.cells #[] 3)).alloc (.cells #[.int .i64 1] 3)).drew := (((Below.refl w4.heap.size w4).alloc (by simp) (.cells #[] 3)).alloc (by simp) (.cells #[.int .i64 1] 3)).drew
  have hK_b : (StC SB (.int .i64 op) (.int .i64 x) (.int .i64 y) (.int .i64 nn) (.slice Bt tl bt) (.slice Be el be) ((w4.alloc (.cells #[] 3)).alloc (.cells #[.int .i64 1] 3)).drew) := stC_mk ((hb_b.block SB (heap_lt S4.out)).trans S4.out)
  have hb_c : Below w4.heap.size w4 ((w4.alloc (.cells #[.int .i64 1] 3)).alloc (.cells #[] 3)).drew := (((Below.refl w4.heap.size w4).alloc (by simp) (.cells #[.int .i64 1] 3)).alloc (by simp) (.cells #[] 3)).drew
  have hK_c : (StC SB (.int .i64 op) (.int .i64 x) (.int .i64 y) (.int .i64 nn) (.slice Bt tl bt) (.slice Be el be) ((w4.alloc (.cells #[.int .i64 1] 3)).alloc (.cells #[] 3)).drew) := stC_mk ((hb_c.block SB (heap_lt S4.out)).trans S4.out)
  have hq0 : (w4.alloc (.cells #[] 3)).heap.size = w4.heap.size + 1 := by simp
  have hq1 : (w4.alloc (.cells #[.int .i64 1] 3)).heap.size = w4.heap.size + 1 := by simp
  have HR_a := Lib.hid ((RowI.lit0 w4 w4.heap.size (Nat.le_refl _)).below (Below.refl (w4.alloc (.cells #[] 3)).heap.size (w4.alloc (.cells #[] 3))).drew)
  have HR_b := Lib.hid ((RowI.lit0 w4 w4.heap.size (Nat.le_refl _)).below ((Below.refl (w4.alloc (.cells #[] 3)).heap.size (w4.alloc (.cells #[] 3))).alloc (Nat.le_refl _) (.cells #[.int .i64 1] 3)).drew)
  have HR_c : Hid (RowI ((w4.alloc (.cells #[.int .i64 1] 3)).alloc (.cells #[] 3)).drew w4.heap.size (.slice (some ⟨w4.heap.size + 1, 0, none⟩) 0 0) []) := by
    have h := (RowI.lit0 (w4.alloc (.cells #[.int .i64 1] 3)) w4.heap.size (by simp)).below (Below.refl ((w4.alloc (.cells #[.int .i64 1] 3)).alloc (.cells #[] 3)).heap.size ((w4.alloc (.cells #[.int .i64 1] 3)).alloc (.cells #[] 3))).drew
    rw [hq1] at h
    exact h
  have l1b : ((w4.alloc (.cells #[] 3)).alloc (.cells #[.int .i64 1] 3)).drew.heap[w4.heap.size + 1]? = some (.cells #[.int .i64 1] 3 (0, 0)) := by rw [← hq0]; exact heap_alloc_new (w4.alloc (.cells #[] 3)) _
  have l1c : ((w4.alloc (.cells #[.int .i64 1] 3)).alloc (.cells #[] 3)).drew.heap[w4.heap.size]? = some (.cells #[.int .i64 1] 3 (0, 0)) := (((Below.refl (w4.alloc (.cells #[.int .i64 1] 3)).heap.size (w4.alloc (.cells #[.int .i64 1] 3))).alloc (Nat.le_refl _) (.cells #[] 3)).block w4.heap.size (by omega)).trans (heap_alloc_new w4 _)
  have HT_a := Lib.hid (T4.out.below hb_a hb_a.size)
  have HT_b := Lib.hid (T4.out.below hb_b hb_b.size)
  have HT_c := Lib.hid (T4.out.below hb_c hb_c.size)
  have HLL : Hid (([] : List Int).length + us.length ≤ 2000000) := by have := HL.out; unfold Hid; simp; omega
  have HLM : Hid (us.length + [(1 : Int)].length ≤ 2000000) := by have := HL.out; unfold Hid; simp; omega
  have HRUN : Hid (∀ (wz : World) (Az : Option Addr) (cz : Nat), Below w4.heap.size w4 wz → RowI wz w4.heap.size (.slice Az (n + 1) cz) (us ++ [1]) → Calls Try.prog 18 #[.slice Az (n + 1) cz, .agg #[.int .i64 op, .int .i64 x, .int .i64 y, .int .i64 nn, .slice Bt tl bt, .slice Be el be]] wz fun E w' => E = .returned (.bool true) ∧ Below wz.heap.size wz w') := by
    intro wz Az cz hb hown
    have HC := implStmtValid_any (us ++ [1]) Az cz op x y nn t e Bt Be bt be wz hown.intsV (P4.out.below hb hb.size) (Q4.out.below hb hb.size)
    have hlen : (us ++ [1]).length = n + 1 := by rw [List.length_append, HN.out]; rfl
    rw [hlen, HTL.out, HEL.out, valid_more (by rw [HN.out]; exact hn6) HV.out] at HC
    exact HC
  go_region_held3 (StC SB (.int .i64 op) (.int .i64 x) (.int .i64 y) (.int .i64 nn) (.slice Bt tl bt) (.slice Be el be))
    (first | with_reducible exact hK0 | with_reducible exact hK_d | with_reducible exact hK_l | with_reducible exact hK_a | with_reducible exact hK_b | with_reducible exact hK_c | with_reducible exact hK6 | with_reducible exact hK7 | with_reducible exact hK8 | with_reducible exact hK9)
    (first
      | ((with_reducible refine at_world (w4.alloc (.cells #[] 3)).drew ?_); refine step_append_ints rfl _ _ rfl rfl w4.heap.size (.slice (some ⟨w4.heap.size, 0, none⟩) 0 0) [] At ct us n HN.out (by simp [Act.eval]) (by simp [Act.eval]) HR_a.out HT_a.out HLL.out hb_a.size ?_; intro v' wa hown hgr hat; rw [List.nil_append] at hown; have hrow := hown; obtain ⟨Av, cv, hv⟩ := hrow.slice; rw [HN.out] at hv; subst hv; have hb6 := hb_a.grown hgr hb_a.size (fun j hj => (HR_a.out.own.lt j hj).1); have hK6 : (StC SB (.int .i64 op) (.int .i64 x) (.int .i64 y) (.int .i64 nn) (.slice Bt tl bt) (.slice Be el be) wa) := stC_mk ((hb6.block SB (heap_lt S4.out)).trans S4.out); have hb7 := hb6.alloc hb6.size (.cells #[.int .i64 1] 3); have hK7 : (StC SB (.int .i64 op) (.int .i64 x) (.int .i64 y) (.int .i64 nn) (.slice Bt tl bt) (.slice Be el be) (wa.alloc (.cells #[.int .i64 1] 3))) := stC_mk ((hb7.block SB (heap_lt S4.out)).trans S4.out); have HB7 := Lib.hid hb7; have HRA := Lib.hid (hown.below ((Below.refl wa.heap.size wa).alloc (Nat.le_refl _) (.cells #[.int .i64 1] 3))); have HI := Lib.hid (intsV_of_block (heap_alloc_new wa (.cells #[.int .i64 1] 3))); have HBA : Hid (w4.heap.size ≤ (wa.alloc (.cells #[.int .i64 1] 3)).heap.size) := hb7.size; clear hb7; clear hrow hown hgr hat hb6)
      | ((with_reducible refine at_world ((w4.alloc (.cells #[] 3)).alloc (.cells #[.int .i64 1] 3)).drew ?_); refine step_append_ints rfl _ _ rfl rfl w4.heap.size (.slice (some ⟨w4.heap.size, 0, none⟩) 0 0) [] At ct us n HN.out (by simp [Act.eval]) (by simp [Act.eval]) HR_b.out HT_b.out HLL.out hb_b.size ?_; intro v' wa hown hgr hat; rw [List.nil_append] at hown; have hrow := hown; obtain ⟨Av, cv, hv⟩ := hrow.slice; rw [HN.out] at hv; subst hv; have hb6 := hb_b.grown hgr hb_b.size (fun j hj => (HR_b.out.own.lt j hj).1); have hK6 : (StC SB (.int .i64 op) (.int .i64 x) (.int .i64 y) (.int .i64 nn) (.slice Bt tl bt) (.slice Be el be) wa) := stC_mk ((hb6.block SB (heap_lt S4.out)).trans S4.out); have hK7 := hK6; have HB7 := Lib.hid hb6; have HRA := Lib.hid hown; have HI := Lib.hid (intsV_of_block ((hgr.block (w4.heap.size + 1) (heap_lt l1b) (fun e9 => (by have e8 : (w4.heap.size + 1) = w4.heap.size := Option.some.inj e9; omega))).trans l1b)); have HBA : Hid (w4.heap.size ≤ wa.heap.size) := hb6.size; clear hrow hown hgr hat hb6)
      | ((with_reducible refine at_world ((w4.alloc (.cells #[.int .i64 1] 3)).alloc (.cells #[] 3)).drew ?_); refine step_append_ints rfl _ _ rfl rfl w4.heap.size (.slice (some ⟨(w4.heap.size + 1), 0, none⟩) 0 0) [] At ct us n HN.out (by simp [Act.eval]) (by simp [Act.eval]) HR_c.out HT_c.out HLL.out hb_c.size ?_; intro v' wa hown hgr hat; rw [List.nil_append] at hown; have hrow := hown; obtain ⟨Av, cv, hv⟩ := hrow.slice; rw [HN.out] at hv; subst hv; have hb6 := hb_c.grown hgr hb_c.size (fun j hj => (HR_c.out.own.lt j hj).1); have hK6 : (StC SB (.int .i64 op) (.int .i64 x) (.int .i64 y) (.int .i64 nn) (.slice Bt tl bt) (.slice Be el be) wa) := stC_mk ((hb6.block SB (heap_lt S4.out)).trans S4.out); have hK7 := hK6; have HB7 := Lib.hid hb6; have HRA := Lib.hid hown; have HI := Lib.hid (intsV_of_block ((hgr.block w4.heap.size (heap_lt l1c) (fun e9 => (by have e8 : w4.heap.size = (w4.heap.size + 1) := Option.some.inj e9; omega))).trans l1c)); have HBA : Hid (w4.heap.size ≤ wa.heap.size) := hb6.size; clear hrow hown hgr hat hb6)
      | (refine step_append_ints rfl _ _ rfl rfl w4.heap.size (.slice Av n cv) us _ 1 [1] 1 rfl (by simp [Act.eval]) (by simp [Act.eval]) HRA.out HI.out HLM.out HBA.out ?_; intro v' wz hown hgr hat; have hrow := hown; obtain ⟨Az, cz, hv⟩ := hrow.slice; rw [List.length_append, HN.out] at hv; have hv9 : v' = .slice Az (n + 1) cz := hv; clear hv; subst hv9; have hb8 := HB7.out.grown hgr HBA.out (fun j hj => (HRA.out.own.lt j hj).1); have S8 := (hb8.block SB (heap_lt S4.out)).trans S4.out; have hK8 : (StC SB (.int .i64 op) (.int .i64 x) (.int .i64 y) (.int .i64 nn) (.slice Bt tl bt) (.slice Be el be) wz) := stC_mk S8; have HC := Lib.hid (HRUN.out wz Az cz hb8 hown); have B8 := Lib.hid (B4.out.trans (hb8.mono (by have := B4.out.size; omega))); clear hrow hown hgr hat hb8)
      | (go_at_call 18; (with_reducible refine HC.out.mono ?_); rintro E w9 ⟨rfl, hb9⟩; have hK9 : (StC SB (.int .i64 op) (.int .i64 x) (.int .i64 y) (.int .i64 nn) (.slice Bt tl bt) (.slice Be el be) w9) := stC_mk ((hb9.block SB (heap_lt S8)).trans S8); have B9 := Lib.hid (B8.out.trans (hb9.mono (by have := B8.out.size; omega))); clear hb9))
  all_goals
    go_wp2_with fail
    go_ret
    exact ⟨rfl, B9.out⟩

theorem cellsByte : Try.prog.cellsOf 5 = 1 := by kernel_rfl

theorem read_bytes {H : Type} {enc : TypeId × Value → H} {W : World} {spare : Nat → Bool} {held : Bool} {fuel : Nat} {v : Value} {x : DataW H × List MemPlace} (h : DataW.trod enc Try.prog W 0 spare held fuel 22 [v] = some x) :
    ∃ (n : Nat) (A : Option Addr) (c : Nat), v = .slice A n c ∧ ByteV W W.heap.size n A c := by
  rcases DataW.trod_slice Try.underlying22 h with ⟨hcs, _⟩ | ⟨a, len, cap, elems, rest, n, _, hcs, _, _, hl, hm, hlen, hel, _⟩
  · injection hcs with hcs _
    exact ⟨0, none, 0, hcs, by simp, by simp [maxLen], fun h => absurd h (by simp)⟩
  · injection hcs with hcs _
    have hex : ∀ i, i < len → ∃ z : Int, W.cell? (a.add i) = some (.int .u8 z) ∧ 0 ≤ z ∧ z ≤ 255 := by
      intro i hi
      have h1 := hel i hi
      rw [cellsByte, Nat.mul_one, List.getElem?_eq_getElem (by omega)] at h1
      obtain ⟨cs', hc, ht⟩ := Option.bind_eq_some_iff.1 h1
      obtain ⟨_, _, hat⟩ := World.cells?_some hc
      obtain ⟨z, rfl, _, hwf⟩ := DataW.trod_int Try.underlying5 ht
      have hz : 0 ≤ z ∧ z ≤ 255 := by simpa [Lit.wf, IntKind.min, IntKind.max, IntKind.signed, IntKind.bits] using hwf
      exact ⟨z, by simpa [Addr.add] using hat 0 (by omega), hz.1, hz.2⟩
    refine ⟨len, some a, cap, hcs, hl, hm, fun h0 => ⟨a, rfl, ?_, hex⟩⟩
    obtain ⟨z, hz, _⟩ := hex 0 h0
    have := World.block_lt_of_cell? W _ hz
    rwa [block_add] at this

theorem own : ownKnob Try.prog.godebug = none := by kernel_rfl
theorem laidOut : laidOutB Try.prog = true := by kernel_rfl

set_option maxRecDepth 100000 in
theorem lifted (os : Os) (started : os.Started) (H : Type) (enc : TypeId × Value → H) :
    ReturnsInHanded {} Try.checked os 7 .any (Rows.fnStmtWideSpec.pre6 enc Try.prog Try.f7 Rows.fnStmtWideRow.domain false) (Rows.fnStmtWideSpec.post enc Try.prog Try.f7 false true false false) := by
  refine returnsInHanded_of_change (C := Try.checked) own started (by kernel_rfl) Try.func7
    (ChangeSpec.witness6 (enc := enc) (C := Try.checked) false ⟨#[], #[.slice none 0 0], []⟩ 8 (by kernel_rfl) (by kernel_rfl) (by kernel_rfl) (by kernel_rfl)) ?_
  intro W base args ds gs before hval0 hW hcnd _
  have hval : ∀ (j : Nat) t v, Try.f7.params[j]? = some t → args[j]? = some v → Value.okWide Try.prog W .any base t v := hval0
  have hW' := hW
  obtain ⟨p, q, hA0, hV, rfl, hfz, hnd⟩ := hW
  have hA : DataW.TrodAll enc Try.prog W 0 (fun _ => true) true Try.f7.params.toList args.toList ds p := hA0
  rw [Try.params7] at hA hval
  obtain ⟨v0, vs0, d0, ds0, p0, q0, hargs, rfl, rfl, h0, r0⟩ := trodAll_cons hA
  obtain ⟨rfl, rfl, rfl⟩ := trodAll_nil r0
  obtain rfl : args = #[v0] := by cases args; simp_all
  obtain ⟨rfl, rfl⟩ := trodVars_none hV
  have k0 := h0
  have lt0 : ∀ x ∈ p0, x.block < W.heap.size := by obtain ⟨m, hm⟩ := k0; exact DataW.trod_lt m _ _ _ hm
  obtain ⟨a0, len0, cap0, rfl⟩ := okWide_slice Try.underlying22 (hval 0 22 v0 rfl rfl)
  obtain ⟨fu0, hf0⟩ := h0
  obtain ⟨nb0, At0, ct0, hv0, hT0⟩ := read_bytes hf0
  injection hv0 with hv0 hv0' hv0''
  subst hv0 hv0' hv0''
  clear hA0 hval0
  simp only [List.append_nil] at hW'
  refine (walk _ _ _ W hT0).mono fun e W' ⟨he, bel⟩ => ?_
  subst he
  exact ⟨_, rfl, _, _, _, [], _, [], hW', trodAll_mk1 (shut_bool Try.underlying4 _), (trodAll_cons_mk (Below.trod laidOut (by kernel_rfl) (of_decide_eq_true (by kernel_rfl)) k0 bel lt0) trodAll_mk0), rfl, bel.frame _, fun h => by cases h⟩

theorem over : Rows.fnStmtWideRow.holds Try.pinned (OpenSpec.ofChange Rows.fnStmtWideSpec) :=
  OpenClaim.holds_of_wide 7 Try.f7 rfl rfl rfl rfl rfl rfl rfl ⟨rfl, rfl, rfl, rfl, rfl⟩ rfl rfl rfl rfl rfl (by kernel_rfl) Try.func7 (by kernel_rfl)
    (of_decide_eq_true (by kernel_rfl)) (by unfold Func.isWrapper; first | (rw [if_pos (by decide +kernel)]; kernel_rfl) | (rw [if_neg (by decide +kernel)]; exact ⟨rfl, rfl⟩))
    (fun os started H enc _ => lifted os started H enc)

theorem proved : Rows.FnStmtWideSaid :=
  over
#print axioms proved
end Go.Proofs.Ytcaklhempmlpgaa.fnStmtWide
