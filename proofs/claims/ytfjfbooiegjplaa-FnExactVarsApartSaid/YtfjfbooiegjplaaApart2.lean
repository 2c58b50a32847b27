/-
  Whether two statements have no variable in common: the program's answer, and its model's.
-/
import Derived.Test.YtfjfbooiegjplaaApart
namespace Go.Proofs.Ytfjfbooiegjplaa
open Go.RowKit Go.Deep
set_option linter.unusedVariables false

/-- Nothing in common. -/
def apartB (xs ys : List Int) : Bool := !decide (∃ x ∈ xs, x ∈ ys)

set_option maxHeartbeats 1000000 in
theorem l2Has_ints (xs : List Int) (x : Int) (A : Option Addr) (c : Nat) (w : World) (hl : xs.length ≤ 100) (hT : IntsV w 0 w.heap.size xs A c) :
    Calls Try.prog 41 #[.slice A xs.length c, .int .i64 x] w fun E w' => E = .returned (.bool (decide (x ∈ xs))) ∧ w = w' := by
  have hlc := hT.1
  have hcm := hT.2.1
  unfold maxLen at hcm
  have HT := Lib.hid hT
  obtain ⟨n, hn⟩ : ∃ n, xs.length = n := ⟨_, rfl⟩
  have HN := Lib.hid hn
  obtain ⟨R, hR⟩ : ∃ R, decide (x ∈ xs) = R := ⟨_, rfl⟩
  have h0 : Hid (decide (x ∈ xs.drop 0) = R) := hR
  rw [hn] at hlc hl ⊢
  rw [hR]
  clear hT hn hR
  go_enter Try.func41, Try.ntmps41
  go_wp2_with fail
  go_loop [5] (fun i => ∃ j : Nat, j ≤ n ∧ i = .int .i64 j ∧ Hid (decide (x ∈ xs.drop j) = R)) (fun i => n - (intOf i).toNat)
  case atStart => exact ⟨0, Nat.zero_le _, rfl, h0⟩
  case round =>
    clear h0
    obtain ⟨j, hj, rfl, hI⟩ := hrel
    by_cases hlt : j < n
    · obtain ⟨b, v, rfl, -, hbb, hx, hc⟩ := HT.out.elem (k := j) (by rw [HN.out]; exact hlt)
      have hI2 := hI.out
      rw [drop_get hx] at hI2
      have HX := Lib.hid hx
      clear hx hI
      by_cases hv : v = x
      · have HI2 : Hid (R = true) := by unfold Hid; rw [← hI2]; simp [hv]
        clear hI2
        subst hv
        go_wp2_with fail
        go_ret
        exact ⟨by rw [HI2.out]; rfl, rfl⟩
      · have HI2 : Hid (decide (x ∈ xs.drop (j + 1)) = R) := by
          unfold Hid
          rw [← hI2]
          simp [Ne.symm hv]
        clear hI2
        go_wp2_with fail
        go_round
        case rel => exact ⟨j + 1, by omega, by go_num, HI2⟩
        case measure => simp [intOf]; omega
    · obtain rfl : j = n := by omega
      have hI2 : Hid (R = false) := by
        unfold Hid
        have h := hI.out
        rw [← HN.out, List.drop_length] at h
        rw [← h]
        simp
      clear hI
      go_wp2_with fail
      go_ret
      exact ⟨by rw [hI2.out]; rfl, rfl⟩

set_option maxRecDepth 100000 in
set_option maxHeartbeats 2000000 in
theorem implVarsApart_any (op1 x1 y1 n1 : Int) (t1 e1 : Sts) (At1 Ae1 : Option Addr) (ct1 ce1 : Nat) (op2 x2 y2 n2 : Int) (t2 e2 : Sts) (At2 Ae2 : Option Addr) (ct2 ce2 : Nat) (lo1 hi1 lo2 hi2 : Nat) (w : World) (hT1 : RepV w lo1 hi1 t1 At1 ct1) (hE1 : RepV w lo1 hi1 e1 Ae1 ce1) (hT2 : RepV w lo2 hi2 t2 At2 ct2) (hE2 : RepV w lo2 hi2 e2 Ae2 ce2)
    (hh1 : hi1 ≤ w.heap.size) (hh2 : hi2 ≤ w.heap.size) (hs1 : ∀ p : Addr, lo1 ≤ p.block → p.block < hi1 → w.frozen? p = false) (hs2 : ∀ p : Addr, lo2 ≤ p.block → p.block < hi2 → w.frozen? p = false) (hz1 : 1 + t1.size + e1.size ≤ 1500000) (hz2 : 1 + t2.size + e2.size ≤ 1500000) :
    Calls Try.prog 19 #[.agg #[.int .i64 op1, .int .i64 x1, .int .i64 y1, .int .i64 n1, .slice At1 t1.len ct1, .slice Ae1 e1.len ce1], .agg #[.int .i64 op2, .int .i64 x2, .int .i64 y2, .int .i64 n2, .slice At2 t2.len ct2, .slice Ae2 e2.len ce2]] w fun E w' => E = .returned (.bool (apartB (outV (fun v => ownB op1 x1 y1 v || varS t1 v || varS e1 v) 6) (outV (fun v => ownB op2 x2 y2 v || varS t2 v || varS e2 v) 6))) ∧ Below w.heap.size w w' := by
  obtain ⟨wb, hwb⟩ : ∃ z, (w.alloc (.cells #[.int .i64 op1, .int .i64 x1, .int .i64 y1, .int .i64 n1, .slice At1 t1.len ct1, .slice Ae1 e1.len ce1] 30)).alloc (.cells #[.int .i64 op2, .int .i64 x2, .int .i64 y2, .int .i64 n2, .slice At2 t2.len ct2, .slice Ae2 e2.len ce2] 30) = z := ⟨_, rfl⟩
  obtain ⟨hA, hB, hwz⟩ := heap2 w (.cells #[.int .i64 op1, .int .i64 x1, .int .i64 y1, .int .i64 n1, .slice At1 t1.len ct1, .slice Ae1 e1.len ce1] 30) (.cells #[.int .i64 op2, .int .i64 x2, .int .i64 y2, .int .i64 n2, .slice At2 t2.len ct2, .slice Ae2 e2.len ce2] 30)
  have hbw : Below w.heap.size w wb := by rw [← hwb]; exact ((Below.refl _ _).alloc (Nat.le_refl _) _).alloc (by simp) _
  rw [hwb] at hA hB hwz
  have hv2 := implVarsOf_any op2 x2 y2 n2 t2 e2 At2 Ae2 ct2 ce2 lo2 hi2 wb (hT2.keep (Nat.le_refl _) (Nat.le_refl _) fun p _ hp => hbw.cell (by omega)) (hE2.keep (Nat.le_refl _) (Nat.le_refl _) fun p _ hp => hbw.cell (by omega)) (by omega) (fun p h1 h2 => (hbw.frozen (by omega)).trans (hs2 p h1 h2)) hz2
  have b0 : wb.cell? ⟨(w.heap.size + 1), 0, none⟩ = some (.int .i64 op2) := (cell_of_block hB 0).trans rfl
  have b1 : wb.cell? ⟨(w.heap.size + 1), 1, none⟩ = some (.int .i64 x2) := (cell_of_block hB 1).trans rfl
  have b2 : wb.cell? ⟨(w.heap.size + 1), 2, none⟩ = some (.int .i64 y2) := (cell_of_block hB 2).trans rfl
  have b3 : wb.cell? ⟨(w.heap.size + 1), 3, none⟩ = some (.int .i64 n2) := (cell_of_block hB 3).trans rfl
  have b4 : wb.cell? ⟨(w.heap.size + 1), 4, none⟩ = some (.slice At2 t2.len ct2) := (cell_of_block hB 4).trans rfl
  have b5 : wb.cell? ⟨(w.heap.size + 1), 5, none⟩ = some (.slice Ae2 e2.len ce2) := (cell_of_block hB 5).trans rfl
  have HA := Lib.hid hA
  have HBW := Lib.hid hbw
  have HT1 := Lib.hid (hT1.keep (w' := wb) (Nat.le_refl _) (Nat.le_refl _) fun p _ hp => hbw.cell (by omega))
  have HE1 := Lib.hid (hE1.keep (w' := wb) (Nat.le_refl _) (Nat.le_refl _) fun p _ hp => hbw.cell (by omega))
  have HS1 : Hid (∀ p : Addr, lo1 ≤ p.block → p.block < hi1 → wb.frozen? p = false) := fun p h1 h2 => (hbw.frozen (by omega)).trans (hs1 p h1 h2)
  clear hA hB hbw hT1 hE1 hT2 hE2 hs1 hs2
  go_enter Try.func19, Try.ntmps19
  go_wp2_with fail
  clear hwb
  refine hv2.mono ?_
  rintro E w1 ⟨v2, rfl, hr2, hb1⟩
  obtain ⟨ys, hys⟩ : ∃ ys, (outV (fun v => ownB op2 x2 y2 v || varS t2 v || varS e2 v) 6) = ys := ⟨_, rfl⟩
  have hyl : ys.length ≤ 6 := by rw [← hys]; exact outV_len _ _
  have HYS := Lib.hid hys
  rw [hys] at hr2
  obtain ⟨A2, c2, hv2e, hI2⟩ := hr2.ints
  subst hv2e
  have HI2 := Lib.hid hI2
  have hz3 := hb1.size
  have hA1 := (hb1.block _ (by omega)).trans HA.out
  have HB1 := Lib.hid hb1
  clear hv2 hr2 hI2 hys b0 b1 b2 b3 b4 b5
  have hba := (Below.refl w1.heap.size w1).alloc (Nat.le_refl _) (.cells #[.slice A2 ys.length c2] 26)
  obtain ⟨wc, hwc⟩ : ∃ z, w1.alloc (.cells #[.slice A2 ys.length c2] 26) = z := ⟨_, rfl⟩
  have hcb := heap_alloc_new w1 (.cells #[.slice A2 ys.length c2] 26)
  have hcz : (w1.alloc (.cells #[.slice A2 ys.length c2] 26)).heap.size = w1.heap.size + 1 := by simp
  rw [hwc] at hba hcb hcz
  have hg : wc.cell? ⟨w1.heap.size, 0, none⟩ = some (.slice A2 ys.length c2) := (cell_of_block hcb 0).trans rfl
  have hAc := (hba.block _ (by omega)).trans hA1
  have a0 : wc.cell? ⟨w.heap.size, 0, none⟩ = some (.int .i64 op1) := (cell_of_block hAc 0).trans rfl
  have a1 : wc.cell? ⟨w.heap.size, 1, none⟩ = some (.int .i64 x1) := (cell_of_block hAc 1).trans rfl
  have a2 : wc.cell? ⟨w.heap.size, 2, none⟩ = some (.int .i64 y1) := (cell_of_block hAc 2).trans rfl
  have a3 : wc.cell? ⟨w.heap.size, 3, none⟩ = some (.int .i64 n1) := (cell_of_block hAc 3).trans rfl
  have a4 : wc.cell? ⟨w.heap.size, 4, none⟩ = some (.slice At1 t1.len ct1) := (cell_of_block hAc 4).trans rfl
  have a5 : wc.cell? ⟨w.heap.size, 5, none⟩ = some (.slice Ae1 e1.len ce1) := (cell_of_block hAc 5).trans rfl
  have HBC := Lib.hid (HB1.out.trans (hba.mono hz3))
  have hv1 := implVarsOf_any op1 x1 y1 n1 t1 e1 At1 Ae1 ct1 ce1 lo1 hi1 wc (HT1.out.keep (Nat.le_refl _) (Nat.le_refl _) fun p _ hp => HBC.out.cell (by omega)) (HE1.out.keep (Nat.le_refl _) (Nat.le_refl _) fun p _ hp => HBC.out.cell (by omega)) (by omega) (fun p h1 h2 => (HBC.out.frozen (by omega)).trans (HS1.out p h1 h2)) hz1
  have HI2c := Lib.hid (HI2.out.below hba hba.size)
  have HG := Lib.hid hg
  clear hba hcb hA1 hAc hg
  go_wp2_with fail
  clear hwc
  refine hv1.mono ?_
  rintro E w2 ⟨v1, rfl, hr1, hb2⟩
  obtain ⟨xs, hxs⟩ : ∃ xs, (outV (fun v => ownB op1 x1 y1 v || varS t1 v || varS e1 v) 6) = xs := ⟨_, rfl⟩
  have hxl : xs.length ≤ 6 := by rw [← hxs]; exact outV_len _ _
  have HXS := Lib.hid hxs
  rw [hxs] at hr1
  obtain ⟨A1, c1, hv1e, hI1⟩ := hr1.ints
  subst hv1e
  have hcf := containsFunc_any xs ys A1 A2 c1 c2 w1.heap.size w2 (by omega) hI1 (by omega) (HI2c.out.below hb2 hb2.size) ((hb2.cell (p := ⟨w1.heap.size, 0, none⟩) (by show w1.heap.size < wc.heap.size; omega)).trans HG.out)
  have HB2 := Lib.hid (HBW.out.trans ((HBC.out.trans (hb2.mono (by omega))).mono (by omega)))
  clear hv1 hr1 hI1 hxs a0 a1 a2 a3 a4 a5 hb2
  obtain ⟨r, hr⟩ : ∃ r, decide (∃ x ∈ xs, x ∈ ys) = r := ⟨_, rfl⟩
  rw [hr] at hcf
  have HR := Lib.hid hr
  clear hr
  go_wp2_with fail
  refine hcf.mono ?_
  rintro E w' ⟨rfl, rfl⟩
  go_wp2_with fail
  go_ret
  exact ⟨by rw [HXS.out, HYS.out]; unfold apartB; rw [HR.out]; rfl, HB2.out⟩

set_option maxRecDepth 100000 in
set_option maxHeartbeats 2000000 in
theorem specVarsApart_any (op1 x1 y1 n1 : Int) (t1 e1 : Sts) (At1 Ae1 : Option Addr) (ct1 ce1 : Nat) (op2 x2 y2 n2 : Int) (t2 e2 : Sts) (At2 Ae2 : Option Addr) (ct2 ce2 : Nat) (w : World) (hT1 : RepV w 0 w.heap.size t1 At1 ct1) (hE1 : RepV w 0 w.heap.size e1 Ae1 ce1) (hT2 : RepV w 0 w.heap.size t2 At2 ct2) (hE2 : RepV w 0 w.heap.size e2 Ae2 ce2)
    (hz1 : 1 + t1.size + e1.size ≤ 1500000) (hz2 : 1 + t2.size + e2.size ≤ 1500000) :
    Calls Try.prog 18 #[.agg #[.int .i64 op1, .int .i64 x1, .int .i64 y1, .int .i64 n1, .slice At1 t1.len ct1, .slice Ae1 e1.len ce1], .agg #[.int .i64 op2, .int .i64 x2, .int .i64 y2, .int .i64 n2, .slice At2 t2.len ct2, .slice Ae2 e2.len ce2]] w fun E w' => E = .returned (.bool (apartB (outV (fun v => ownB op1 x1 y1 v || varS t1 v || varS e1 v) 6) (outV (fun v => ownB op2 x2 y2 v || varS t2 v || varS e2 v) 6))) ∧ Below w.heap.size w w' := by
  obtain ⟨wb, hwb⟩ : ∃ z, (w.alloc (.cells #[.int .i64 op1, .int .i64 x1, .int .i64 y1, .int .i64 n1, .slice At1 t1.len ct1, .slice Ae1 e1.len ce1] 30)).alloc (.cells #[.int .i64 op2, .int .i64 x2, .int .i64 y2, .int .i64 n2, .slice At2 t2.len ct2, .slice Ae2 e2.len ce2] 30) = z := ⟨_, rfl⟩
  obtain ⟨hA, hB, hwz⟩ := heap2 w (.cells #[.int .i64 op1, .int .i64 x1, .int .i64 y1, .int .i64 n1, .slice At1 t1.len ct1, .slice Ae1 e1.len ce1] 30) (.cells #[.int .i64 op2, .int .i64 x2, .int .i64 y2, .int .i64 n2, .slice At2 t2.len ct2, .slice Ae2 e2.len ce2] 30)
  have hbw : Below w.heap.size w wb := by rw [← hwb]; exact ((Below.refl _ _).alloc (Nat.le_refl _) _).alloc (by simp) _
  rw [hwb] at hA hB hwz
  have hv1 := specVarsOf_any op1 x1 y1 n1 t1 e1 At1 Ae1 ct1 ce1 wb (hT1.below hbw hbw.size) (hE1.below hbw hbw.size) hz1
  have a0 : wb.cell? ⟨w.heap.size, 0, none⟩ = some (.int .i64 op1) := (cell_of_block hA 0).trans rfl
  have a1 : wb.cell? ⟨w.heap.size, 1, none⟩ = some (.int .i64 x1) := (cell_of_block hA 1).trans rfl
  have a2 : wb.cell? ⟨w.heap.size, 2, none⟩ = some (.int .i64 y1) := (cell_of_block hA 2).trans rfl
  have a3 : wb.cell? ⟨w.heap.size, 3, none⟩ = some (.int .i64 n1) := (cell_of_block hA 3).trans rfl
  have a4 : wb.cell? ⟨w.heap.size, 4, none⟩ = some (.slice At1 t1.len ct1) := (cell_of_block hA 4).trans rfl
  have a5 : wb.cell? ⟨w.heap.size, 5, none⟩ = some (.slice Ae1 e1.len ce1) := (cell_of_block hA 5).trans rfl
  have HB := Lib.hid hB
  have HBW := Lib.hid hbw
  have HT2 := Lib.hid (hT2.below hbw hbw.size)
  have HE2 := Lib.hid (hE2.below hbw hbw.size)
  clear hA hB hbw hT1 hE1 hT2 hE2
  go_enter Try.func18, Try.ntmps18
  go_wp2_with fail
  clear hwb
  refine hv1.mono ?_
  rintro E w1 ⟨v1, rfl, hr1, hb1⟩
  obtain ⟨xs, hxs⟩ : ∃ xs, (outV (fun v => ownB op1 x1 y1 v || varS t1 v || varS e1 v) 6) = xs := ⟨_, rfl⟩
  have hxl : xs.length ≤ 6 := by rw [← hxs]; exact outV_len _ _
  have HXS := Lib.hid hxs
  rw [hxs] at hr1
  obtain ⟨A1, c1, hv1e, hI1⟩ := hr1.ints
  subst hv1e
  have HI1 := Lib.hid hI1
  have hz3 := hb1.size
  have hB1 := (hb1.block (w.heap.size + 1) (by omega)).trans HB.out
  have b0 : w1.cell? ⟨(w.heap.size + 1), 0, none⟩ = some (.int .i64 op2) := (cell_of_block hB1 0).trans rfl
  have b1 : w1.cell? ⟨(w.heap.size + 1), 1, none⟩ = some (.int .i64 x2) := (cell_of_block hB1 1).trans rfl
  have b2 : w1.cell? ⟨(w.heap.size + 1), 2, none⟩ = some (.int .i64 y2) := (cell_of_block hB1 2).trans rfl
  have b3 : w1.cell? ⟨(w.heap.size + 1), 3, none⟩ = some (.int .i64 n2) := (cell_of_block hB1 3).trans rfl
  have b4 : w1.cell? ⟨(w.heap.size + 1), 4, none⟩ = some (.slice At2 t2.len ct2) := (cell_of_block hB1 4).trans rfl
  have b5 : w1.cell? ⟨(w.heap.size + 1), 5, none⟩ = some (.slice Ae2 e2.len ce2) := (cell_of_block hB1 5).trans rfl
  have hv2 := specVarsOf_any op2 x2 y2 n2 t2 e2 At2 Ae2 ct2 ce2 w1 (HT2.out.below hb1 hb1.size) (HE2.out.below hb1 hb1.size) hz2
  have HB1 := Lib.hid hb1
  clear hv1 hr1 hI1 hxs a0 a1 a2 a3 a4 a5 hb1 hB1
  go_wp2_with fail
  refine hv2.mono ?_
  rintro E w2 ⟨v2, rfl, hr2, hb2⟩
  obtain ⟨ys, hys⟩ : ∃ ys, (outV (fun v => ownB op2 x2 y2 v || varS t2 v || varS e2 v) 6) = ys := ⟨_, rfl⟩
  have hyl : ys.length ≤ 6 := by rw [← hys]; exact outV_len _ _
  have HYS := Lib.hid hys
  rw [hys] at hr2
  obtain ⟨A2, c2, hv2e, hI2⟩ := hr2.ints
  subst hv2e
  have HI2 := Lib.hid hI2
  have HI1b := Lib.hid (HI1.out.below hb2 hb2.size)
  have HB2 := Lib.hid (HBW.out.trans ((HB1.out.trans (hb2.mono (by omega))).mono (by omega)))
  have hx1 := HI1b.out.1
  have hx2 := HI1b.out.2.1
  unfold maxLen at hx2
  obtain ⟨m, hm⟩ : ∃ m, xs.length = m := ⟨_, rfl⟩
  have HM := Lib.hid hm
  rw [hm] at hxl hx1 ⊢
  obtain ⟨R, hR⟩ : ∃ R, apartB xs ys = R := ⟨_, rfl⟩
  have HRes : Hid (apartB (outV (fun v => ownB op1 x1 y1 v || varS t1 v || varS e1 v) 6) (outV (fun v => ownB op2 x2 y2 v || varS t2 v || varS e2 v) 6) = R) := by unfold Hid; rw [HXS.out, HYS.out]; exact hR
  have h0 : Hid (apartB (xs.drop 0) ys = R) := hR
  clear hv2 hr2 hI2 hys b0 b1 b2 b3 b4 b5 hb2 hm hR
  go_wp2_with fail
  go_loop [7] (fun i => ∃ j : Nat, j ≤ m ∧ i = .int .i64 j ∧ Hid (apartB (xs.drop j) ys = R)) (fun i => m - (intOf i).toNat)
  case atStart => exact ⟨0, Nat.zero_le _, rfl, h0⟩
  case round =>
    clear h0
    obtain ⟨j, hj, rfl, hI⟩ := hrel
    by_cases hlt : j < m
    · obtain ⟨b, v, rfl, -, hbb, hx, hc⟩ := HI1b.out.elem (k := j) (by rw [HM.out]; exact hlt)
      have hI2 := hI.out
      rw [drop_get hx] at hI2
      have HX := Lib.hid hx
      have hC := l2Has_ints ys v A2 c2 w2 (by omega) HI2.out
      clear hx hI
      by_cases hv : v ∈ ys
      · have HI2b : Hid (R = false) := by unfold Hid; rw [← hI2]; unfold apartB; simp [hv]
        rw [decide_eq_true hv] at hC
        clear hI2
        go_wp2_with fail
        refine hC.mono ?_
        rintro E w' ⟨rfl, rfl⟩
        go_wp2_with fail
        go_ret
        exact ⟨by rw [HRes.out, HI2b.out]; rfl, HB2.out⟩
      · have HI2b : Hid (apartB (xs.drop (j + 1)) ys = R) := by
          unfold Hid
          rw [← hI2]
          unfold apartB
          simp [hv]
        rw [decide_eq_false hv] at hC
        clear hI2
        go_wp2_with fail
        refine hC.mono ?_
        rintro E w' ⟨rfl, rfl⟩
        go_wp2_with fail
        go_round
        case rel => exact ⟨j + 1, by omega, by go_num, HI2b⟩
        case measure => simp [intOf]; omega
    · obtain rfl : j = m := by omega
      have hI2 : Hid (R = true) := by
        unfold Hid
        have h := hI.out
        rw [← HM.out, List.drop_length] at h
        rw [← h]
        simp [apartB]
      clear hI
      go_wp2_with fail
      go_ret
      exact ⟨by rw [HRes.out, hI2.out]; rfl, HB2.out⟩

end Go.Proofs.Ytfjfbooiegjplaa
