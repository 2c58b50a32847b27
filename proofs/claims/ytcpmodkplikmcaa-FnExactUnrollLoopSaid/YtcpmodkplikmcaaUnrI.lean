/-
  A loop that is unrolled once, as the program does it.
-/
import Derived.Test.YtcpmodkplikmcaaWst
import Derived.Test.YtcpmodkplikmcaaChg
import Derived.Test.YtcpmodkplikmcaaProv
import Derived.Test.YtcpmodkplikmcaaKindsB
import Derived.Test.YtcpmodkplikmcaaDrpS
import Derived.Deep.DeepCutAuto
namespace Go.Proofs.Ytcpmodkplikmcaa
open Go.RowKit Go.Deep
set_option linter.unusedVariables false

/-- Whether a list begins with a loop. -/
def unrS : Sts → Bool
  | .cons op _ _ _ _ _ _ => decide (op = 10)
  | .nil => false

/-- What comes instead of the loop. -/
def unrM : Sts → Sts
  | .cons op x y n t e _ => .cons 9 0 0 0 (t.app (.cons op x y n t e .nil)) .nil .nil
  | .nil => .nil

def unrR (s : Sts) (k : Nat) : Sts := s.splice k (k + 1) (unrM (s.drop k))

/-- What the last region reads. -/
@[reducible] def SH (B M : Nat) (p0 p1 c0 c1 : Value) (X : World) : Prop := X.cell? ⟨B, 0, none⟩ = some p0 ∧ X.cell? ⟨B, 1, none⟩ = some p1 ∧ X.cell? ⟨M, 0, none⟩ = some c0 ∧ X.cell? ⟨M, 1, none⟩ = some c1

theorem sh_block {B M : Nat} {p0 p1 c0 c1 : Value} {X Y : World} (h : SH B M p0 p1 c0 c1 X) (hB : Y.heap[B]? = X.heap[B]?) (hM : Y.heap[M]? = X.heap[M]?) : SH B M p0 p1 c0 c1 Y :=
  ⟨(World.cell?_of_block (w := X) hB).trans h.1, (World.cell?_of_block (w := X) hB).trans h.2.1, (World.cell?_of_block (w := X) hM).trans h.2.2.1, (World.cell?_of_block (w := X) hM).trans h.2.2.2⟩

def unrOk (ts : List Int) (s : Sts) (k : Int) : Bool := (hasB ts s k 1 && unrS (s.drop k.toNat)) && validB ts (unrR s k.toNat)

theorem hasB_true1 {ts : List Int} {s : Sts} {k n : Int} (h : hasB ts s k n = true) : validB ts s = true ∧ 0 ≤ k ∧ k ≤ (s.len : Int) - n := by
  unfold hasB at h
  simp only [Bool.and_eq_true, decide_eq_true_eq] at h
  exact h

set_option maxRecDepth 100000 in
set_option maxHeartbeats 4000000 in
theorem implUnrollLoop_any (ts : List Int) (s : Sts) (At As : Option Addr) (ct cs : Nat) (k : Int) (w : World) (hT : IntsV w 0 w.heap.size ts At ct) (hS : RepV w 0 w.heap.size s As cs) :
    Calls Try.prog 21 #[.agg #[.slice At ts.length ct, .slice As s.len cs], .int .i64 k] w fun E w' => ∃ v, E = .returned (.tuple #[v, .bool (unrOk ts s k)]) ∧ AnsP w' w.heap.size (unrOk ts s k) ts (unrR s k.toNat) v ∧ Below w.heap.size w w' := by
  obtain ⟨W, hW⟩ : ∃ W, (w.alloc (.cells #[.slice At ts.length ct, .slice As s.len cs] 29)).alloc (.cells #[.slice none 0 0, .slice none 0 0] 29) = W := ⟨_, rfl⟩
  have hbW : Below w.heap.size w W := by rw [← hW]; exact ((Below.refl _ _).alloc (Nat.le_refl _) _).alloc (by simp) _
  obtain ⟨hWP, hWR, hWz⟩ := heap2 w (.cells #[.slice At ts.length ct, .slice As s.len cs] 29) (.cells #[.slice none 0 0, .slice none 0 0] 29)
  rw [hW] at hWP hWR hWz
  have HH : Hid (∀ X : World, Below W.heap.size W X → Calls Try.prog 41 #[.agg #[.slice At ts.length ct, .slice As s.len cs], .int .i64 k, .int .i64 1] X fun E w' => E = .returned (.bool (hasB ts s k 1)) ∧ Below W.heap.size W w') := fun X hX => (hasStmts_any ts s At As ct cs k 1 X (by omega) (by omega) ((hT.below hbW hbW.size).below hX hX.size) ((hS.below hbW hbW.size).below hX hX.size)).mono fun E w' h => ⟨h.1, hX.trans (h.2.mono hX.size)⟩
  have HT := Lib.hid (hT.below hbW hbW.size)
  have HS := Lib.hid (hS.below hbW hbW.size)
  have HBW := Lib.hid hbW
  have HWP := Lib.hid hWP
  have HWR := Lib.hid hWR
  have p0 : W.cell? ⟨w.heap.size, 0, none⟩ = some (.slice At ts.length ct) := (cell_of_block hWP 0).trans rfl
  have p1 : W.cell? ⟨w.heap.size, 1, none⟩ = some (.slice As s.len cs) := (cell_of_block hWP 1).trans rfl
  have hcm := hS.2.1
  have hlc := hS.1
  unfold maxLen at hcm
  have hno : Hid (∀ v, unrOk ts s k = false → v = Value.agg #[.slice none 0 0, .slice none 0 0] → ∀ w', AnsP w' w.heap.size (unrOk ts s k) ts (unrR s k.toNat) v) := fun v h hv w' => by unfold AnsP; rw [h, if_neg (by simp)]; exact hv
  clear hT hS hbW hWP hWR
  go_enter Try.func21, Try.ntmps21
  go_upto_region 1 with (fail)
  clear hW
  cases hhb : hasB ts s k 1
  · have hd : unrOk ts s k = false := by unfold unrOk; rw [hhb]; rfl
    have HD := Lib.hid hd
    clear hd
    rw [hhb] at HH
    go_wp2_with fail
    refine (HH.out _ (Below.refl _ _)).mono ?_
    rintro E w1 ⟨rfl, hb1⟩
    have HB1 := Lib.hid (HBW.out.trans (hb1.mono (by omega)))
    have hwz := hb1.size
    have hR1 := (hb1.block (w.heap.size + 1) (by omega)).trans HWR.out
    have r0 : w1.cell? ⟨w.heap.size + 1, 0, none⟩ = some (.slice none 0 0) := (cell_of_block hR1 0).trans rfl
    have r1 : w1.cell? ⟨w.heap.size + 1, 1, none⟩ = some (.slice none 0 0) := (cell_of_block hR1 1).trans rfl
    have y0 := frozen_of_block hR1 0
    have y1 := frozen_of_block hR1 1
    have HR1 := Lib.hid hR1
    have hBz := Lib.hid ((HB1.out.setCell (p := ⟨w.heap.size + 1, 0, none⟩) (by simp) (.slice none 0 0)).setCell (p := ⟨w.heap.size + 1, 1, none⟩) (by simp) (.slice none 0 0))
    clear hb1 hR1 p0 p1
    go_wp2_with fail
    exact bodyPost_ret (v := .tuple #[.agg #[.slice none 0 0, .slice none 0 0], .bool false]) (by simp [results, Try.results21, go_sem, r0, r1]) rfl ⟨_, by rw [HD.out], hno.out _ HD.out rfl _, hBz.out⟩
  · obtain ⟨hvb, hk0, hk1⟩ := hasB_true1 hhb
    obtain ⟨K, rfl⟩ : ∃ K : Nat, k = (K : Int) := ⟨k.toNat, by omega⟩
    have hsize := validB_size hvb
    have htl := validB_types hvb
    clear hvb
    rw [hhb] at HH
    obtain ⟨b, op, x, y, n, t, e, hAs, _, hbb, hd1, A1, c1, A2, c2, ⟨a0, a1, a2, a3, a4, a5⟩, hTT, hTE⟩ := HS.out.elem (k := K) (by omega)
    have HTT := Lib.hid hTT
    have HTE := Lib.hid hTE
    subst hAs
    have hB1 : (b.add (K * 6)).block < W.heap.size := by rw [block_add]; exact hbb
    have CE : Hid (∀ X : World, Below W.heap.size W X → (X.cell? ⟨w.heap.size, 1, none⟩ = some (.slice (some b) s.len cs)) ∧ (X.cell? (b.add (K * 6)) = some (.int .i64 op) ∧ X.cell? ⟨(b.add (K * 6)).block, (b.add (K * 6)).off + 1, none⟩ = some (.int .i64 x) ∧ X.cell? ⟨(b.add (K * 6)).block, (b.add (K * 6)).off + 2, none⟩ = some (.int .i64 y) ∧ X.cell? ⟨(b.add (K * 6)).block, (b.add (K * 6)).off + 3, none⟩ = some (.int .i64 n) ∧ X.cell? ⟨(b.add (K * 6)).block, (b.add (K * 6)).off + 4, none⟩ = some (.slice A1 t.len c1) ∧ X.cell? ⟨(b.add (K * 6)).block, (b.add (K * 6)).off + 5, none⟩ = some (.slice A2 e.len c2))) := fun X hX => ⟨(hX.cell (by show w.heap.size < _; omega)).trans p1, ⟨(hX.cell hB1).trans a0, (hX.cell (by exact hB1)).trans a1, (hX.cell (by exact hB1)).trans a2, (hX.cell (by exact hB1)).trans a3, (hX.cell (by exact hB1)).trans a4, (hX.cell (by exact hB1)).trans a5⟩⟩
    clear a0 a1 a2 a3 a4 a5 hB1 hbb hTT hTE
    have hki0 : (0 : Int) ≤ (K : Int) := by omega
    have hki1 : (K : Int) < (s.len : Int) := by omega
    have HDD := Lib.hid hd1
    have hfo : unrOk ts s (K : Int) = (decide (op = 10) && validB ts (unrR s K)) := by unfold unrOk; rw [hhb]; show ((true && unrS (s.drop K)) && _) = _; rw [hd1]; rfl
    have HFO := Lib.hid hfo
    clear hd1 hfo hhb hk0 hk1
    by_cases hop : op = 10
    rotate_left
    · have HD := Lib.hid (HFO.out.trans (show _ = false by rw [decide_eq_false hop]; rfl))
      go_wp2_with fail
      refine (HH.out _ (Below.refl _ _)).mono ?_
      rintro E w1 ⟨rfl, hb1⟩
      obtain ⟨q1, ⟨a0, a1, a2, a3, a4, a5⟩⟩ := CE.out w1 hb1
      have HB1 := Lib.hid (HBW.out.trans (hb1.mono (by omega)))
      have hwz := hb1.size
      have hR1 := (hb1.block (w.heap.size + 1) (by omega)).trans HWR.out
      have r0 : w1.cell? ⟨w.heap.size + 1, 0, none⟩ = some (.slice none 0 0) := (cell_of_block hR1 0).trans rfl
      have r1 : w1.cell? ⟨w.heap.size + 1, 1, none⟩ = some (.slice none 0 0) := (cell_of_block hR1 1).trans rfl
      have y0 := frozen_of_block hR1 0
      have y1 := frozen_of_block hR1 1
      have HR1 := Lib.hid hR1
      have hBz := Lib.hid ((HB1.out.setCell (p := ⟨w.heap.size + 1, 0, none⟩) (by simp) (.slice none 0 0)).setCell (p := ⟨w.heap.size + 1, 1, none⟩) (by simp) (.slice none 0 0))
      clear hb1 hR1 p0 p1
      go_wp2_with fail
      exact bodyPost_ret (v := .tuple #[.agg #[.slice none 0 0, .slice none 0 0], .bool false]) (by simp [results, Try.results21, go_sem, r0, r1]) rfl ⟨_, by rw [HD.out], hno.out _ HD.out rfl _, hBz.out⟩
    subst hop
    have HFP := Lib.hid (HFO.out.trans (show (decide ((10 : Int) = 10) && validB ts (unrR s K)) = validB ts (unrR s K) from rfl))
    go_wp2_with fail
    refine (HH.out _ (Below.refl _ _)).mono ?_
    rintro E w1 ⟨rfl, hb1⟩
    obtain ⟨q1, ⟨a0, a1, a2, a3, a4, a5⟩⟩ := CE.out w1 hb1
    have HB1 := Lib.hid hb1
    have hwz1 := hb1.size
    have hub : ∃ us : List StR, ofR us = t ∧ SrcR w1 A1 c1 us ∧ ∀ r ∈ us, RepV w1 0 w1.heap.size r.t r.At r.ct ∧ RepV w1 0 w1.heap.size r.e r.Ae r.ce := rows_of (HTT.out.below hb1 hwz1) (Nat.le_refl _)
    obtain ⟨us, hus, hsrc, hsub⟩ := hub
    have hul : us.length = t.len := by rw [← hus, ofR_len]
    have hts : t.size < s.size ∧ e.size < s.size := RepV.drop_sizes HDD.out
    have HCC : Hid (Calls Try.prog 54 #[.slice (some ⟨w1.heap.size + 1 + 1, 0, none⟩) 2 2] (((w1.alloc (.cells #[.int .i64 10, .int .i64 x, .int .i64 y, .int .i64 n, .slice A1 t.len c1, .slice A2 e.len c2] 53)).alloc (.cells #[.int .i64 10, .int .i64 x, .int .i64 y, .int .i64 n, .slice A1 t.len c1, .slice A2 e.len c2] 53)).alloc (.cells #[.slice A1 t.len c1, .slice (some ⟨w1.heap.size + 1, 0, none⟩) 1 1] 27)) fun E w' => ∃ (Av : Option Addr) (cv : Nat), E = .returned (.slice Av (t.app (.cons 10 x y n t e .nil)).len cv) ∧ RepV w' 0 w'.heap.size (t.app (.cons 10 x y n t e .nil)) Av cv ∧ Below w1.heap.size w1 w') := by
      obtain ⟨X, hX⟩ : ∃ X, (((w1.alloc (.cells #[.int .i64 10, .int .i64 x, .int .i64 y, .int .i64 n, .slice A1 t.len c1, .slice A2 e.len c2] 53)).alloc (.cells #[.int .i64 10, .int .i64 x, .int .i64 y, .int .i64 n, .slice A1 t.len c1, .slice A2 e.len c2] 53)).alloc (.cells #[.slice A1 t.len c1, .slice (some ⟨w1.heap.size + 1, 0, none⟩) 1 1] 27)) = X := ⟨_, rfl⟩
      have hXb : Below w1.heap.size w1 X := by rw [← hX]; exact (((Below.refl _ _).alloc (Nat.le_refl _) _).alloc (by simp) _).alloc (by simp; omega) _
      have hXz : X.heap.size = w1.heap.size + 3 := by rw [← hX]; simp
      have hBB : X.heap[w1.heap.size + 1]? = some (.cells #[.int .i64 10, .int .i64 x, .int .i64 y, .int .i64 n, .slice A1 t.len c1, .slice A2 e.len c2] 53 (0, 0)) := by
        rw [← hX]
        show (((w1.heap.push _).push _).push _)[w1.heap.size + 1]? = _
        simp only [Array.getElem?_push, Array.size_push]
        rw [if_neg (by omega), if_pos trivial]
      have hCC : X.heap[w1.heap.size + 1 + 1]? = some (.cells #[.slice A1 t.len c1, .slice (some ⟨w1.heap.size + 1, 0, none⟩) 1 1] 27 (0, 0)) := by
        rw [← hX]
        show (((w1.heap.push _).push _).push _)[w1.heap.size + 1 + 1]? = _
        simp only [Array.getElem?_push, Array.size_push]
        rw [if_pos trivial]
      rw [hX]
      have hj : joinC [⟨A1, c1, us⟩, ⟨some ⟨w1.heap.size + 1, 0, none⟩, 1, [⟨10, x, y, n, t, e, A1, c1, A2, c2⟩]⟩] 2 = us ++ [⟨10, x, y, n, t, e, A1, c1, A2, c2⟩] := by simp [joinC]
      have hcat := concat_any [⟨A1, c1, us⟩, ⟨some ⟨w1.heap.size + 1, 0, none⟩, 1, [⟨10, x, y, n, t, e, A1, c1, A2, c2⟩]⟩] (w1.heap.size + 1 + 1) 2 X (by simp) (by simp) (by simp [maxLen]) (by omega) (fun j q hq => by
        rcases j with _ | _ | j
        · simp only [List.getElem?_cons_zero, Option.some.injEq] at hq
          subst hq
          refine (cell_of_block hCC 0).trans ?_
          show some (Value.slice A1 t.len c1) = some (.slice A1 us.length c1)
          rw [hul]
        · simp only [List.getElem?_cons_succ, List.getElem?_cons_zero, Option.some.injEq] at hq
          subst hq
          exact (cell_of_block hCC 1).trans rfl
        · simp at hq) (fun q hq => by
        simp only [List.mem_cons, List.not_mem_nil, or_false] at hq
        rcases hq with rfl | rfl
        · exact hsrc.below hXb (Nat.le_refl _)
        · exact ⟨Nat.le_refl _, by unfold maxLen; simp, fun _ => ⟨_, rfl, by show w1.heap.size + 1 < _; omega, fun j v hj => by
            rw [show (⟨w1.heap.size + 1, 0, none⟩ : Addr).add j = ⟨w1.heap.size + 1, j, none⟩ from by cases j <;> simp [Addr.add], cell_of_block hBB j]
            simpa [StR.cells] using hj⟩⟩) (by
          show (joinC _ 2).length ≤ _
          rw [hj, List.length_append, hul]
          have := t.len_le_size
          simp
          omega)
      have hlen2 : [(⟨A1, c1, us⟩ : CArg), ⟨some ⟨w1.heap.size + 1, 0, none⟩, 1, [⟨10, x, y, n, t, e, A1, c1, A2, c2⟩]⟩].length = 2 := rfl
      rw [hlen2, hj] at hcat
      refine hcat.mono ?_
      rintro E w' ⟨v, rfl, hown, hb⟩
      obtain ⟨Av, cv, rfl, q1, q2, q3⟩ := own_form hown
      have hap : ofR (us ++ [⟨10, x, y, n, t, e, A1, c1, A2, c2⟩]) = t.app (.cons 10 x y n t e .nil) := by rw [ofR_append, hus]; rfl
      have hwb : Below w1.heap.size w1 w' := hXb.trans (hb.mono (by omega))
      refine ⟨Av, cv, by rw [← hap, ofR_len], ⟨by rw [← hap, ofR_len]; exact q1, q2, fun h0 => ?_⟩, hwb⟩
      rw [← hap, ofR_len] at h0
      obtain ⟨g, rfl, g1, g2⟩ := q3 h0
      refine ⟨_, rfl, Nat.zero_le _, g2, ?_⟩
      rw [← hap]
      refine rep_of_cells _ _ (fun j u hj => World.ownsRow.cells hown (g := g) rfl j u hj) fun r hr => ?_
      rcases List.mem_append.1 hr with hr | hr
      · exact ⟨(hsub r hr).1.below hwb hwb.size, (hsub r hr).2.below hwb hwb.size⟩
      · simp only [List.mem_cons, List.not_mem_nil, or_false] at hr
        subst hr
        exact ⟨(HTT.out.below hb1 hwz1).below hwb hwb.size, (HTE.out.below hb1 hwz1).below hwb hwb.size⟩
    have HTE1 := Lib.hid (HTE.out.below hb1 hwz1)
    clear p0 p1 hb1 hsrc hsub hus hul
    go_wp2_with fail
    refine HCC.out.mono ?_
    rintro E w2 ⟨Av, cv, rfl, hRA, hb2⟩
    obtain ⟨L, hL⟩ : ∃ L, (t.app (.cons 10 x y n t e .nil)).len = L := ⟨_, rfl⟩
    have HL := Lib.hid hL
    have HRA := Lib.hid hRA
    have hz2 := hb2.size
    have HB2 := Lib.hid (HB1.out.trans (hb2.mono hwz1))
    rw [hL]
    clear hL hRA hb2 HCC a0 a1 a2 a3 a4 a5 q1
    go_upto_region 5 with (fail)
    obtain ⟨w5, hw5⟩ : ∃ z, w2.alloc (.cells #[.slice Av L cv, .slice none 0 0] 68) = z := ⟨_, rfl⟩
    have hb5 : Below w2.heap.size w2 w5 := by rw [← hw5]; exact (Below.refl _ _).alloc (Nat.le_refl _) _
    have hM : w5.heap[w2.heap.size]? = some (.cells #[.slice Av L cv, .slice none 0 0] 68 (0, 0)) := by rw [← hw5]; exact heap_alloc_new w2 _
    have hwz5 : w2.heap.size < w5.heap.size := by rw [← hw5]; simp
    have HW5 := Lib.hid hw5
    have HB5 := Lib.hid (HB2.out.trans (hb5.mono HB2.out.size))
    have hP5 := (HB5.out.block w.heap.size (by omega)).trans HWP.out
    have q0 : w5.cell? ⟨w.heap.size, 0, none⟩ = some (.slice At ts.length ct) := (cell_of_block hP5 0).trans rfl
    have q1 : w5.cell? ⟨w.heap.size, 1, none⟩ = some (.slice (some b) s.len cs) := (cell_of_block hP5 1).trans rfl
    have m0 : w5.cell? ⟨w2.heap.size, 0, none⟩ = some (.slice Av L cv) := (cell_of_block hM 0).trans rfl
    have m1 : w5.cell? ⟨w2.heap.size, 1, none⟩ = some (.slice none 0 0) := (cell_of_block hM 1).trans rfl
    have HRB := Lib.hid (HRA.out.below hb5 hb5.size)
    have hfr : unrR s K = s.splice K (K + 1) (.cons 9 0 0 0 (t.app (.cons 10 x y n t e .nil)) .nil .nil) := by unfold unrR; rw [HDD.out]; rfl
    have HFR := Lib.hid hfr
    obtain ⟨D, hD⟩ : ∃ D, (unrR s K).len = D := ⟨_, rfl⟩
    have HDL := Lib.hid hD
    have hwz25 := HB5.out.size
    have hWW : W.heap.size ≤ w2.heap.size := HB2.out.size
    have HWW : Hid (∀ (X : World) (g : Nat), Below w5.heap.size w5 X → g < X.heap.size → X.heap[g]? = some (.cells #[.int .i64 9, .int .i64 0, .int .i64 0, .int .i64 0, .slice Av L cv, .slice none 0 0] 53 (0, 0)) → Calls Try.prog 43 #[.agg #[.slice At ts.length ct, .slice (some b) s.len cs], .int .i64 (K : Int), .int .i64 1, .slice (some ⟨g, 0, none⟩) 1 1] X fun E w' => ∃ (A A' : Option Addr) (c c' : Nat), E = .returned (.agg #[.slice A ts.length c, .slice A' D c']) ∧ ProgA w' X.heap.size ts (unrR s K) (.agg #[.slice A ts.length c, .slice A' D c']) ∧ Below X.heap.size X w') := fun X g hX hg hXg => by
      have c0 : X.cell? ⟨g, 0, none⟩ = some (.int .i64 9) := (cell_of_block hXg 0).trans rfl
      have c1' : X.cell? ⟨g, 1, none⟩ = some (.int .i64 0) := (cell_of_block hXg 1).trans rfl
      have c2' : X.cell? ⟨g, 2, none⟩ = some (.int .i64 0) := (cell_of_block hXg 2).trans rfl
      have c3 : X.cell? ⟨g, 3, none⟩ = some (.int .i64 0) := (cell_of_block hXg 3).trans rfl
      have c4 : X.cell? ⟨g, 4, none⟩ = some (.slice Av L cv) := (cell_of_block hXg 4).trans rfl
      have c5 : X.cell? ⟨g, 5, none⟩ = some (.slice none 0 0) := (cell_of_block hXg 5).trans rfl
      have hBr := HRB.out.below hX hX.size
      have hO : RepV X 0 X.heap.size (.cons 9 0 0 0 (t.app (.cons 10 x y n t e .nil)) .nil .nil) (some ⟨g, 0, none⟩) 1 := ⟨Nat.le_refl _, by unfold maxLen; simp, fun _ => ⟨_, rfl, Nat.zero_le _, hg, ⟨c0, c1', c2', c3⟩, ⟨Av, cv, by rw [HL.out]; exact c4, hBr.1, hBr.2.1, hBr.2.2⟩, ⟨none, 0, c5, Nat.le_refl _, Nat.zero_le _, fun h => absurd h (by show ¬ 0 < 0; omega)⟩, trivial⟩⟩
      have hz9 : (Sts.cons 9 0 0 0 (t.app (.cons 10 x y n t e .nil)) .nil .nil).size ≤ 30000 := by
        show 1 + (t.app (.cons 10 x y n t e .nil)).size + Sts.nil.size + Sts.nil.size ≤ 30000
        rw [Sts.app_size]
        show 1 + (t.size + (1 + t.size + e.size + Sts.nil.size)) + Sts.nil.size + Sts.nil.size ≤ 30000
        simp only [Sts.size]
        omega
      have hw := withStmts_any ts s (.cons 9 0 0 0 (t.app (.cons 10 x y n t e .nil)) .nil .nil) At (some b) (some ⟨g, 0, none⟩) ct cs 1 K 1 X (by omega) (by omega) hz9 (by omega) (by omega) hO ((HT.out.below HB5.out HB5.out.size).below hX hX.size) ((HS.out.below HB5.out HB5.out.size).below hX hX.size)
      rw [← HFR.out] at hw
      refine Calls.mono hw ?_
      rintro E w' ⟨v, rfl, hA, hb⟩
      have hA2 := hA
      obtain ⟨A, A', c, c', lo, hi, rfl, _⟩ := hA
      rw [HDL.out] at hA2 ⊢
      exact ⟨A, A', c, c', rfl, hA2, hb⟩
    have HMV : Hid (∀ X : World, Below w5.heap.size w5 X → Calls Try.prog 57 #[.agg #[.slice Av L cv, .slice none 0 0]] X fun E w' => E = .returned (.agg #[.int .i64 9, .int .i64 0, .int .i64 0, .int .i64 0, .slice Av L cv, .slice none 0 0]) ∧ Below w5.heap.size w5 w') := fun X hX => (plain_9 Av none L cv 0 0 X).mono fun E w' h => ⟨h.1, hX.trans (h.2.mono hX.size)⟩
    have HPV : Hid (∀ (X : World) (B : Nat) (A A' : Option Addr) (c c' : Nat), ProgA X B ts (unrR s K) (.agg #[.slice A ts.length c, .slice A' D c']) → Calls Try.prog 55 #[(.func (.func 56) #[] #[]), .agg #[.slice A ts.length c, .slice A' D c']] X fun E w' => E = .returned (.tuple #[provA ts (unrR s K) A A' c c', .bool (validB ts (unrR s K))]) ∧ Below X.heap.size X w') := fun X B A A' c c' hA => by
      obtain ⟨A2, A3, c2, c3, lo, hi, hv, hI, hR, h1, h2, _⟩ := hA
      simp only [Value.agg.injEq, Array.mk.injEq, List.cons.injEq, Value.slice.injEq, and_true, true_and] at hv
      have hp := provided_any ts (unrR s K) A A' c c' X (by
        obtain ⟨⟨rfl, rfl⟩, _⟩ := hv
        exact hI.intsLo.keep (Nat.zero_le _) (Nat.le_refl _) fun _ _ _ => rfl) (by
        obtain ⟨_, rfl, _, rfl⟩ := hv
        exact hR.rep.keep (Nat.zero_le _) h2 fun _ _ _ => rfl)
      rw [HDL.out] at hp
      exact hp
    go_upto_region 5 with (fail)
    rw [HW5.out]
    have hG0 : SH w.heap.size w2.heap.size (.slice At ts.length ct) (.slice (some b) s.len cs) (.slice Av L cv) (.slice none 0 0) w5 := ⟨q0, q1, m0, m1⟩
    have hG0d : SH w.heap.size w2.heap.size (.slice At ts.length ct) (.slice (some b) s.len cs) (.slice Av L cv) (.slice none 0 0) w5.drew := hG0
    clear hP5 hfr hD hb5 hM hw5 q0 q1 m0 m1 HW5
    cases hvr : validB ts (unrR s K)
    · have HD := Lib.hid (HFP.out.trans hvr)
      have HPV2 : Hid (∀ (X : World) (B : Nat) (A A' : Option Addr) (c c' : Nat), ProgA X B ts (unrR s K) (.agg #[.slice A ts.length c, .slice A' D c']) → Calls Try.prog 55 #[(.func (.func 56) #[] #[]), .agg #[.slice A ts.length c, .slice A' D c']] X fun E w' => E = .returned (.tuple #[.agg #[.slice none 0 0, .slice none 0 0], .bool false]) ∧ Below X.heap.size X w') := fun X B A A' c c' hA => by
        have := HPV.out X B A A' c c' hA
        rw [provA_false hvr, hvr] at this
        exact this
      clear HPV hvr
      go_region_held3 (SH w.heap.size w2.heap.size (.slice At ts.length ct) (.slice (some b) s.len cs) (.slice Av L cv) (.slice none 0 0))
        (first | with_reducible exact hG0 | with_reducible exact hG0d | with_reducible exact hG3 | with_reducible exact hG3d | with_reducible exact hG3a _ | with_reducible exact hG3b _ | with_reducible exact hG3c _ | with_reducible exact hG4 | with_reducible exact hG4d | with_reducible exact hG6 | with_reducible exact hG6d | with_reducible exact hG6s _ _ | exact hG6s _ _)
        (first
          | (go_at_call 57; refine (HMV.out _ ?hx).mono ?_; (case hx => first | exact Below.refl _ _ | exact (Below.refl _ _).drew); rintro E w3 ⟨rfl, hb3⟩; have hwz3 := hb3.size; have hG3 := sh_block hG0 (hb3.block _ (by omega)) (hb3.block _ hwz5); have hG3d : SH w.heap.size w2.heap.size (.slice At ts.length ct) (.slice (some b) s.len cs) (.slice Av L cv) (.slice none 0 0) w3.drew := hG3; have hG3a : ∀ o, SH w.heap.size w2.heap.size (.slice At ts.length ct) (.slice (some b) s.len cs) (.slice Av L cv) (.slice none 0 0) (w3.alloc o) := (fun o => sh_block hG3 (Below.heap_alloc _ _ _ (by omega)) (Below.heap_alloc _ _ _ (by omega))); have hG3b : ∀ o, SH w.heap.size w2.heap.size (.slice At ts.length ct) (.slice (some b) s.len cs) (.slice Av L cv) (.slice none 0 0) (w3.alloc o).drew := hG3a; have hG3c : ∀ o, SH w.heap.size w2.heap.size (.slice At ts.length ct) (.slice (some b) s.len cs) (.slice Av L cv) (.slice none 0 0) (w3.drew.alloc o) := hG3a; have hXb := Lib.hid (hb3.trans (((Below.refl w3.heap.size w3).alloc (Nat.le_refl _) (.cells #[.int .i64 9, .int .i64 0, .int .i64 0, .int .i64 0, .slice Av L cv, .slice none 0 0] 53)).mono hwz3)))
          | (go_at_call 43; refine (HWW.out _ w3.heap.size ?hx ?hy ?hz).mono ?_; (case hx => first | exact hXb.out | exact hXb.out.drew); (case hy => simp); (case hz => exact heap_alloc_new w3 _); rintro E w4 ⟨A, A', c, c', rfl, hA, hb4⟩; have HB4 := Lib.hid ((HB5.out.trans (hXb.out.mono hwz25)).trans (hb4.mono (by simp; omega))); have hz4 := HB4.out.size; have hz4b := hb4.size; have hA := Lib.hid hA; have hb4 := Lib.hid hb4; have hG4 := sh_block hG3 (((hb4.out.block _ (by simp; omega))).trans (Below.heap_alloc _ _ _ (by omega))) ((hb4.out.block _ (by simp; omega)).trans (Below.heap_alloc _ _ _ (by omega))); have hG4d : SH w.heap.size w2.heap.size (.slice At ts.length ct) (.slice (some b) s.len cs) (.slice Av L cv) (.slice none 0 0) w4.drew := hG4)
          | (go_at_call 55; refine (HPV2.out _ _ A A' c c' hA.out).mono ?_; rintro E w6 ⟨rfl, hb6⟩; have HB6 := Lib.hid (HBW.out.trans ((HB4.out.trans (hb6.mono hz4)).mono (by omega))); have HB46 := Lib.hid hb6; have hA6 := Lib.hid (hA.out.below hb6); have hR4 := Lib.hid ((hb6.block (w.heap.size + 1) (by omega)).trans ((HB4.out.block (w.heap.size + 1) (by omega)).trans HWR.out)); have r0 : w6.cell? ⟨w.heap.size + 1, 0, none⟩ = some (.slice none 0 0) := (cell_of_block hR4.out 0).trans rfl; have r1 : w6.cell? ⟨w.heap.size + 1, 1, none⟩ = some (.slice none 0 0) := (cell_of_block hR4.out 1).trans rfl; have y0 := frozen_of_block hR4.out 0; have y1 := frozen_of_block hR4.out 1; have hG6 := sh_block hG4 (hb6.block _ (by omega)) (hb6.block _ (by simp at hz4b; omega)); have hG6d : SH w.heap.size w2.heap.size (.slice At ts.length ct) (.slice (some b) s.len cs) (.slice Av L cv) (.slice none 0 0) w6.drew := hG6; have hG6s : ∀ v v', SH w.heap.size w2.heap.size (.slice At ts.length ct) (.slice (some b) s.len cs) (.slice Av L cv) (.slice none 0 0) ((w6.setCell ⟨w.heap.size + 1, 0, none⟩ v).setCell ⟨w.heap.size + 1, 1, none⟩ v') := (fun v v' => sh_block hG6 ((Below.heap_setCell _ _ _ _ (by show w.heap.size ≠ w.heap.size + 1; omega)).trans (Below.heap_setCell _ _ _ _ (by show w.heap.size ≠ w.heap.size + 1; omega))) ((Below.heap_setCell _ _ _ _ (by show w2.heap.size ≠ w.heap.size + 1; omega)).trans (Below.heap_setCell _ _ _ _ (by show w2.heap.size ≠ w.heap.size + 1; omega))))))
      have hBz := Lib.hid ((HB6.out.setCell (p := ⟨w.heap.size + 1, 0, none⟩) (by simp) (.slice none 0 0)).setCell (p := ⟨w.heap.size + 1, 1, none⟩) (by simp) (.slice none 0 0))
      clear hA hb4 hR4 hG0 hG0d hG3 hG3d hG3a hG3b hG3c hG4 hG4d hG6 hG6d hG6s
      go_wp2_with fail
      exact bodyPost_ret (v := .tuple #[.agg #[.slice none 0 0, .slice none 0 0], .bool false]) (by simp [results, Try.results21, go_sem, r0, r1]) rfl ⟨_, by rw [HD.out], hno.out _ HD.out rfl _, hBz.out⟩
    · have HD := Lib.hid (HFP.out.trans hvr)
      have HPV2 : Hid (∀ (X : World) (B : Nat) (A A' : Option Addr) (c c' : Nat), ProgA X B ts (unrR s K) (.agg #[.slice A ts.length c, .slice A' D c']) → Calls Try.prog 55 #[(.func (.func 56) #[] #[]), .agg #[.slice A ts.length c, .slice A' D c']] X fun E w' => E = .returned (.tuple #[.agg #[.slice A ts.length c, .slice A' D c'], .bool true]) ∧ Below X.heap.size X w') := fun X B A A' c c' hA => by
        have := HPV.out X B A A' c c' hA
        rw [provA_true hvr, hvr, HDL.out] at this
        exact this
      clear HPV hvr
      go_region_held3 (SH w.heap.size w2.heap.size (.slice At ts.length ct) (.slice (some b) s.len cs) (.slice Av L cv) (.slice none 0 0))
        (first | with_reducible exact hG0 | with_reducible exact hG0d | with_reducible exact hG3 | with_reducible exact hG3d | with_reducible exact hG3a _ | with_reducible exact hG3b _ | with_reducible exact hG3c _ | with_reducible exact hG4 | with_reducible exact hG4d | with_reducible exact hG6 | with_reducible exact hG6d | with_reducible exact hG6s _ _ | exact hG6s _ _)
        (first
          | (go_at_call 57; refine (HMV.out _ ?hx).mono ?_; (case hx => first | exact Below.refl _ _ | exact (Below.refl _ _).drew); rintro E w3 ⟨rfl, hb3⟩; have hwz3 := hb3.size; have hG3 := sh_block hG0 (hb3.block _ (by omega)) (hb3.block _ hwz5); have hG3d : SH w.heap.size w2.heap.size (.slice At ts.length ct) (.slice (some b) s.len cs) (.slice Av L cv) (.slice none 0 0) w3.drew := hG3; have hG3a : ∀ o, SH w.heap.size w2.heap.size (.slice At ts.length ct) (.slice (some b) s.len cs) (.slice Av L cv) (.slice none 0 0) (w3.alloc o) := (fun o => sh_block hG3 (Below.heap_alloc _ _ _ (by omega)) (Below.heap_alloc _ _ _ (by omega))); have hG3b : ∀ o, SH w.heap.size w2.heap.size (.slice At ts.length ct) (.slice (some b) s.len cs) (.slice Av L cv) (.slice none 0 0) (w3.alloc o).drew := hG3a; have hG3c : ∀ o, SH w.heap.size w2.heap.size (.slice At ts.length ct) (.slice (some b) s.len cs) (.slice Av L cv) (.slice none 0 0) (w3.drew.alloc o) := hG3a; have hXb := Lib.hid (hb3.trans (((Below.refl w3.heap.size w3).alloc (Nat.le_refl _) (.cells #[.int .i64 9, .int .i64 0, .int .i64 0, .int .i64 0, .slice Av L cv, .slice none 0 0] 53)).mono hwz3)))
          | (go_at_call 43; refine (HWW.out _ w3.heap.size ?hx ?hy ?hz).mono ?_; (case hx => first | exact hXb.out | exact hXb.out.drew); (case hy => simp); (case hz => exact heap_alloc_new w3 _); rintro E w4 ⟨A, A', c, c', rfl, hA, hb4⟩; have HB4 := Lib.hid ((HB5.out.trans (hXb.out.mono hwz25)).trans (hb4.mono (by simp; omega))); have hz4 := HB4.out.size; have hz4b := hb4.size; have hA := Lib.hid hA; have hb4 := Lib.hid hb4; have hG4 := sh_block hG3 (((hb4.out.block _ (by simp; omega))).trans (Below.heap_alloc _ _ _ (by omega))) ((hb4.out.block _ (by simp; omega)).trans (Below.heap_alloc _ _ _ (by omega))); have hG4d : SH w.heap.size w2.heap.size (.slice At ts.length ct) (.slice (some b) s.len cs) (.slice Av L cv) (.slice none 0 0) w4.drew := hG4)
          | (go_at_call 55; refine (HPV2.out _ _ A A' c c' hA.out).mono ?_; rintro E w6 ⟨rfl, hb6⟩; have HB6 := Lib.hid (HBW.out.trans ((HB4.out.trans (hb6.mono hz4)).mono (by omega))); have HB46 := Lib.hid hb6; have hA6 := Lib.hid (hA.out.below hb6); have hR4 := Lib.hid ((hb6.block (w.heap.size + 1) (by omega)).trans ((HB4.out.block (w.heap.size + 1) (by omega)).trans HWR.out)); have r0 : w6.cell? ⟨w.heap.size + 1, 0, none⟩ = some (.slice none 0 0) := (cell_of_block hR4.out 0).trans rfl; have r1 : w6.cell? ⟨w.heap.size + 1, 1, none⟩ = some (.slice none 0 0) := (cell_of_block hR4.out 1).trans rfl; have y0 := frozen_of_block hR4.out 0; have y1 := frozen_of_block hR4.out 1; have hG6 := sh_block hG4 (hb6.block _ (by omega)) (hb6.block _ (by simp at hz4b; omega)); have hG6d : SH w.heap.size w2.heap.size (.slice At ts.length ct) (.slice (some b) s.len cs) (.slice Av L cv) (.slice none 0 0) w6.drew := hG6; have hG6s : ∀ v v', SH w.heap.size w2.heap.size (.slice At ts.length ct) (.slice (some b) s.len cs) (.slice Av L cv) (.slice none 0 0) ((w6.setCell ⟨w.heap.size + 1, 0, none⟩ v).setCell ⟨w.heap.size + 1, 1, none⟩ v') := (fun v v' => sh_block hG6 ((Below.heap_setCell _ _ _ _ (by show w.heap.size ≠ w.heap.size + 1; omega)).trans (Below.heap_setCell _ _ _ _ (by show w.heap.size ≠ w.heap.size + 1; omega))) ((Below.heap_setCell _ _ _ _ (by show w2.heap.size ≠ w.heap.size + 1; omega)).trans (Below.heap_setCell _ _ _ _ (by show w2.heap.size ≠ w.heap.size + 1; omega))))))
      have HA := Lib.hid (ProgA.mono (hA6.out.keep (w' := (w6.setCell ⟨w.heap.size + 1, 0, none⟩ (.slice A ts.length c)).setCell ⟨w.heap.size + 1, 1, none⟩ (.slice A' D c')) (by simp [World.setCell]) fun q q1 q2 => (Below.heap_setCell _ _ _ _ (by show q ≠ w.heap.size + 1; simp at q1; omega)).trans (Below.heap_setCell _ _ _ _ (by show q ≠ w.heap.size + 1; simp at q1; omega))) (show w.heap.size ≤ _ by simp; omega))
      have hBz := Lib.hid ((HB6.out.setCell (p := ⟨w.heap.size + 1, 0, none⟩) (by simp) (.slice A ts.length c)).setCell (p := ⟨w.heap.size + 1, 1, none⟩) (by simp) (.slice A' D c'))
      clear hA hb4 hR4 hG0 hG0d hG3 hG3d hG3a hG3b hG3c hG4 hG4d hG6 hG6d hG6s
      go_wp2_with fail
      exact bodyPost_ret (v := .tuple #[.agg #[.slice A ts.length c, .slice A' D c'], .bool true]) (by simp [results, Try.results21, go_sem, r0, r1]) rfl ⟨_, by rw [HD.out], by rw [HD.out]; unfold AnsP; rw [if_pos rfl]; exact HA.out, hBz.out⟩

end Go.Proofs.Ytcpmodkplikmcaa
