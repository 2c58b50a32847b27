/-
  A load behind a store, as the model replaces it.
-/
import Derived.Test.YtcpmodkplikmcaaFldI
import Derived.Test.YtcpmodkplikmcaaDrpS
namespace Go.Proofs.Ytcpmodkplikmcaa
open Go.RowKit Go.Deep
set_option linter.unusedVariables false

theorem flat_set : ∀ (rs : List StR) (i : Nat) (r : StR), i < rs.length → ((((((rs.flatMap StR.cells).set (i * 6) (.int .i64 r.op)).set (i * 6 + 1) (.int .i64 r.x)).set (i * 6 + 2) (.int .i64 r.y)).set (i * 6 + 3) (.int .i64 r.n)).set (i * 6 + 4) (.slice r.At r.t.len r.ct)).set (i * 6 + 5) (.slice r.Ae r.e.len r.ce) = (rs.set i r).flatMap StR.cells
  | [], i, r, h => by simp at h
  | q :: rs, 0, r, _ => by
    rw [List.set_cons_zero, List.flatMap_cons, List.flatMap_cons]
    simp [StR.cells]
  | q :: rs, i + 1, r, h => by
    have ih := flat_set rs i r (by simpa using h)
    rw [List.set_cons_succ, List.flatMap_cons, List.flatMap_cons, ← ih]
    have e0 : (i + 1) * 6 = i * 6 + 1 + 1 + 1 + 1 + 1 + 1 := by omega
    simp only [e0, StR.cells, List.cons_append, List.nil_append, List.set_cons_succ]

theorem ofR_set (rs : List StR) (i : Nat) (r : StR) (hi : i < rs.length) : ofR (rs.set i r) = (ofR rs).splice i (i + 1) (.cons r.op r.x r.y r.n r.t r.e .nil) := by
  rw [List.set_eq_take_append_cons_drop, if_pos hi, ofR_append, ofR_take]
  unfold Sts.splice
  rw [← ofR_drop]
  rfl

set_option maxRecDepth 100000 in
set_option maxHeartbeats 4000000 in
theorem specForwardLoad_any (ts : List Int) (s : Sts) (At As : Option Addr) (ct cs : Nat) (k : Int) (w : World) (hsz : s.size ≤ 1048576) (hT : IntsV w 0 w.heap.size ts At ct) (hS : RepV w 0 w.heap.size s As cs) :
    Calls Try.prog 12 #[.agg #[.slice At ts.length ct, .slice As s.len cs], .int .i64 k] w fun E w' => ∃ v, E = .returned (.tuple #[v, .bool (fwdOk ts s k)]) ∧ AnsS w' w.heap.size (fwdOk ts s k) ts (fwdR s k.toNat) v ∧ Below w.heap.size w w' := by
  obtain ⟨W, hW⟩ : ∃ W, (w.alloc (.cells #[.slice At ts.length ct, .slice As s.len cs] 29)).alloc (.cells #[.slice none 0 0, .slice none 0 0] 29) = W := ⟨_, rfl⟩
  have hbW : Below w.heap.size w W := by rw [← hW]; exact ((Below.refl _ _).alloc (Nat.le_refl _) _).alloc (by simp) _
  obtain ⟨hWP, hWR, hWz⟩ := heap2 w (.cells #[.slice At ts.length ct, .slice As s.len cs] 29) (.cells #[.slice none 0 0, .slice none 0 0] 29)
  rw [hW] at hWP hWR hWz
  have hv := specProgramValid_any ts s At As ct cs W hsz (hT.below hbW hbW.size) (hS.below hbW hbW.size)
  have HT := Lib.hid (hT.below hbW hbW.size)
  have HS := Lib.hid (hS.below hbW hbW.size)
  have HBW := Lib.hid hbW
  have HWP := Lib.hid hWP
  have HWR := Lib.hid hWR
  have p0 : W.cell? ⟨w.heap.size, 0, none⟩ = some (.slice At ts.length ct) := (cell_of_block hWP 0).trans rfl
  have p1 : W.cell? ⟨w.heap.size, 1, none⟩ = some (.slice As s.len cs) := (cell_of_block hWP 1).trans rfl
  have hcm := hS.2.1
  have hlc := hS.1
  unfold maxLen at hcm
  clear hT hS hbW hWP hWR
  go_enter Try.func12, Try.ntmps12
  go_wp2_with fail
  clear hW
  refine hv.mono ?_
  rintro E w1 ⟨rfl, hb1⟩
  have HB1 := Lib.hid (HBW.out.trans (hb1.mono (by omega)))
  have hP1 := (hb1.block w.heap.size (by omega)).trans HWP.out
  have hR1 := (hb1.block (w.heap.size + 1) (by omega)).trans HWR.out
  have q0 : w1.cell? ⟨w.heap.size, 0, none⟩ = some (.slice At ts.length ct) := (cell_of_block hP1 0).trans rfl
  have q1 : w1.cell? ⟨w.heap.size, 1, none⟩ = some (.slice As s.len cs) := (cell_of_block hP1 1).trans rfl
  have r0 : w1.cell? ⟨w.heap.size + 1, 0, none⟩ = some (.slice none 0 0) := (cell_of_block hR1 0).trans rfl
  have r1 : w1.cell? ⟨w.heap.size + 1, 1, none⟩ = some (.slice none 0 0) := (cell_of_block hR1 1).trans rfl
  have y0 := frozen_of_block hR1 0
  have y1 := frozen_of_block hR1 1
  have hwz := hb1.size
  have HR1 := Lib.hid hR1
  have HP1 := Lib.hid hP1
  have HT1 := Lib.hid (HT.out.below hb1 hwz)
  have HS1 := Lib.hid (HS.out.below hb1 hwz)
  have hno : Hid (∀ v, fwdOk ts s k = false → v = Value.agg #[.slice none 0 0, .slice none 0 0] → ∀ w', AnsS w' w.heap.size (fwdOk ts s k) ts (fwdR s k.toNat) v) := fun v h hv w' => by unfold AnsS; rw [h, if_neg (by simp)]; exact hv
  have hBz := Lib.hid ((HB1.out.setCell (p := ⟨w.heap.size + 1, 0, none⟩) (by simp) (.slice none 0 0)).setCell (p := ⟨w.heap.size + 1, 1, none⟩) (by simp) (.slice none 0 0))
  have hlw : IntKind.i64.wrap ((s.len : Int) - 1) = (s.len : Int) - 1 := by rw [IntKind.wrap_i64]; have := s.len_le_size; omega
  clear hv hb1 hP1 hR1 p0 p1
  cases hvb : validB ts s
  · have hd : fwdOk ts s k = false := by unfold fwdOk hasB; rw [hvb]; rfl
    have HD := Lib.hid hd
    clear hd hvb HT1 HS1
    go_wp2_with fail
    exact bodyPost_ret (v := .tuple #[.agg #[.slice none 0 0, .slice none 0 0], .bool false]) (by simp [results, Try.results12, go_sem, r0, r1]) rfl ⟨_, by rw [HD.out], hno.out _ HD.out rfl _, hBz.out⟩
  by_cases hk0 : 0 ≤ k
  rotate_left
  · have hd : fwdOk ts s k = false := by unfold fwdOk hasB; rw [decide_eq_false hk0]; simp
    have HD := Lib.hid hd
    have hk2 : k < 0 := by omega
    clear hd hvb HT1 HS1
    go_wp2_with fail
    exact bodyPost_ret (v := .tuple #[.agg #[.slice none 0 0, .slice none 0 0], .bool false]) (by simp [results, Try.results12, go_sem, r0, r1]) rfl ⟨_, by rw [HD.out], hno.out _ HD.out rfl _, hBz.out⟩
  by_cases hk1 : k ≤ (s.len : Int) - 2
  rotate_left
  · have hd : fwdOk ts s k = false := by unfold fwdOk hasB; rw [decide_eq_false hk1]; simp
    have HD := Lib.hid hd
    have hk2 : (s.len : Int) - 1 ≤ k := by omega
    clear hd hvb HT1 HS1 hk1
    go_wp2_with fail
    exact bodyPost_ret (v := .tuple #[.agg #[.slice none 0 0, .slice none 0 0], .bool false]) (by simp [results, Try.results12, go_sem, r0, r1]) rfl ⟨_, by rw [HD.out], hno.out _ HD.out rfl _, hBz.out⟩
  have hhb : hasB ts s k 2 = true := by unfold hasB; rw [hvb, decide_eq_true hk0, decide_eq_true hk1]; rfl
  obtain ⟨K, rfl⟩ : ∃ K : Nat, k = (K : Int) := ⟨k.toNat, by omega⟩
  have hsize := validB_size hvb
  have htl := validB_types hvb
  obtain ⟨b, op, x, y, n, t, e, hAs, _, hbb, hd1, A1, c1, A2, c2, ⟨a0, a1, a2, a3, a4, a5⟩, _, _⟩ := HS1.out.elem (k := K) (by omega)
  obtain ⟨b', op2, x2, y2, n2, t2, e2, hAs', _, _, hd2, A3, c3, A4, c4, ⟨e0, e1, e2', e3, e4, e5⟩, _, _⟩ := HS1.out.elem (k := K + 1) (by omega)
  rw [hAs] at hAs'
  injection hAs' with hAs'
  subst hAs'
  subst hAs
  have hki0 : ¬ ((K : Int) < 0) := by omega
  have hki1 : (K : Int) < (s.len : Int) := by omega
  have hki2 : (0 : Int) ≤ (K : Int) + 1 := by omega
  have hki3 : (K : Int) + 1 < (s.len : Int) := by omega
  have hki4 : ¬ ((s.len : Int) - 1 ≤ (K : Int)) := by omega
  have hki5 : (K : Int) < (s.len : Int) - 1 := by omega
  have hkn : ((K : Int) + 1).toNat = K + 1 := by omega
  have hkw : IntKind.i64.wrap ((K : Int) + 1) = (K : Int) + 1 := by rw [IntKind.wrap_i64]; have := s.len_le_size; omega
  have hdd : s.drop K = .cons op x y n t e (.cons op2 x2 y2 n2 t2 e2 (s.drop (K + 2))) := by rw [hd1, hd2]
  have HDD := Lib.hid hdd
  have hfo : fwdOk ts s (K : Int) = fwdB op x y op2 x2 y2 := by unfold fwdOk; rw [hhb]; show (true && fwdS (s.drop K)) = _; rw [hdd]; rfl
  have HFO := Lib.hid hfo
  have hB1 : (b.add (K * 6)).block < w1.heap.size := by rw [block_add]; exact hbb
  have hB2 : (b.add ((K + 1) * 6)).block < w1.heap.size := by rw [block_add]; exact hbb
  have hba := (Below.refl w1.heap.size w1).alloc (Nat.le_refl _) (.cells #[.int .i64 op, .int .i64 x, .int .i64 y, .int .i64 n, .slice A1 t.len c1, .slice A2 e.len c2] 53)
  have g0 := (hba.cell (p := b.add ((K + 1) * 6)) hB2).trans e0
  have g1 := (hba.cell (p := ⟨(b.add ((K + 1) * 6)).block, (b.add ((K + 1) * 6)).off + 1, none⟩) hB2).trans e1
  have g2 := (hba.cell (p := ⟨(b.add ((K + 1) * 6)).block, (b.add ((K + 1) * 6)).off + 2, none⟩) hB2).trans e2'
  have g3 := (hba.cell (p := ⟨(b.add ((K + 1) * 6)).block, (b.add ((K + 1) * 6)).off + 3, none⟩) hB2).trans e3
  have g4 := (hba.cell (p := ⟨(b.add ((K + 1) * 6)).block, (b.add ((K + 1) * 6)).off + 4, none⟩) hB2).trans e4
  have g5 := (hba.cell (p := ⟨(b.add ((K + 1) * 6)).block, (b.add ((K + 1) * 6)).off + 5, none⟩) hB2).trans e5
  have g6 := (hba.cell (p := ⟨w.heap.size, 1, none⟩) (by show w.heap.size < _; omega)).trans q1
  clear hd1 hd2 hdd hfo hhb hk0 hk1 hvb hba hB1 hB2 hbb e0 e1 e2' e3 e4 e5
  obtain ⟨w2, hw2⟩ : ∃ z, (w1.alloc (.cells #[.int .i64 op, .int .i64 x, .int .i64 y, .int .i64 n, .slice A1 t.len c1, .slice A2 e.len c2] 53)).alloc (.cells #[.int .i64 op2, .int .i64 x2, .int .i64 y2, .int .i64 n2, .slice A3 t2.len c3, .slice A4 e2.len c4] 53) = z := ⟨_, rfl⟩
  obtain ⟨hwA, hwB, hwz2⟩ := heap2 w1 (.cells #[.int .i64 op, .int .i64 x, .int .i64 y, .int .i64 n, .slice A1 t.len c1, .slice A2 e.len c2] 53) (.cells #[.int .i64 op2, .int .i64 x2, .int .i64 y2, .int .i64 n2, .slice A3 t2.len c3, .slice A4 e2.len c4] 53)
  have hb2 : Below w1.heap.size w1 w2 := by rw [← hw2]; exact ((Below.refl _ _).alloc (Nat.le_refl _) _).alloc (by simp) _
  rw [hw2] at hwA hwB hwz2
  have HW2 := Lib.hid hw2
  have HWA := Lib.hid hwA
  have HWB := Lib.hid hwB
  have HB2 := Lib.hid hb2
  clear hwA hwB hb2 hw2 hBz r0 r1 y0 y1
  go_upto_region 5 with (fail)
  rw [HW2.out]
  clear HW2
  have hP2 := (HB2.out.block w.heap.size (by omega)).trans HP1.out
  have hR2 := (HB2.out.block (w.heap.size + 1) (by omega)).trans HR1.out
  have q0 : w2.cell? ⟨w.heap.size, 0, none⟩ = some (.slice At ts.length ct) := (cell_of_block hP2 0).trans rfl
  have q1 : w2.cell? ⟨w.heap.size, 1, none⟩ = some (.slice (some b) s.len cs) := (cell_of_block hP2 1).trans rfl
  have r0 : w2.cell? ⟨w.heap.size + 1, 0, none⟩ = some (.slice none 0 0) := (cell_of_block hR2 0).trans rfl
  have r1 : w2.cell? ⟨w.heap.size + 1, 1, none⟩ = some (.slice none 0 0) := (cell_of_block hR2 1).trans rfl
  have y0 := frozen_of_block hR2 0
  have y1 := frozen_of_block hR2 1
  have m0 : w2.cell? ⟨w1.heap.size, 0, none⟩ = some (.int .i64 op) := (cell_of_block HWA.out 0).trans rfl
  have m1 : w2.cell? ⟨w1.heap.size, 1, none⟩ = some (.int .i64 x) := (cell_of_block HWA.out 1).trans rfl
  have m2 : w2.cell? ⟨w1.heap.size, 2, none⟩ = some (.int .i64 y) := (cell_of_block HWA.out 2).trans rfl
  have k0 : w2.cell? ⟨w1.heap.size + 1, 0, none⟩ = some (.int .i64 op2) := (cell_of_block HWB.out 0).trans rfl
  have k1 : w2.cell? ⟨w1.heap.size + 1, 1, none⟩ = some (.int .i64 x2) := (cell_of_block HWB.out 1).trans rfl
  have k2 : w2.cell? ⟨w1.heap.size + 1, 2, none⟩ = some (.int .i64 y2) := (cell_of_block HWB.out 2).trans rfl
  have HR2 := Lib.hid hR2
  have HBb := Lib.hid (HB1.out.trans (HB2.out.mono (by omega)))
  have hBz := Lib.hid ((HBb.out.setCell (p := ⟨w.heap.size + 1, 0, none⟩) (by simp) (.slice none 0 0)).setCell (p := ⟨w.heap.size + 1, 1, none⟩) (by simp) (.slice none 0 0))
  have HT2 := Lib.hid (HT1.out.below HB2.out HB2.out.size)
  have HS2 := Lib.hid (HS1.out.below HB2.out HB2.out.size)
  have hco := l1CopyOf_any ts s At (some b) ct cs w2 (by omega) (by omega) HT2.out HS2.out
  clear hP2 hR2 HT1 HS1 a0 a1 a2 a3 a4 a5 g0 g1 g2 g3 g4 g5 g6
  by_cases h1 : op = 7
  rotate_left
  · have HD := Lib.hid (HFO.out.trans (show fwdB op x y op2 x2 y2 = false by unfold fwdB; simp [h1]))
    go_wp2_with fail
    exact bodyPost_ret (v := .tuple #[.agg #[.slice none 0 0, .slice none 0 0], .bool false]) (by simp [results, Try.results12, go_sem, r0, r1]) rfl ⟨_, by rw [HD.out], hno.out _ HD.out rfl _, hBz.out⟩
  by_cases h2 : op2 = 6
  rotate_left
  · have HD := Lib.hid (HFO.out.trans (show fwdB op x y op2 x2 y2 = false by unfold fwdB; simp [h2]))
    go_wp2_with fail
    exact bodyPost_ret (v := .tuple #[.agg #[.slice none 0 0, .slice none 0 0], .bool false]) (by simp [results, Try.results12, go_sem, r0, r1]) rfl ⟨_, by rw [HD.out], hno.out _ HD.out rfl _, hBz.out⟩
  by_cases h3 : x = y2
  rotate_left
  · have HD := Lib.hid (HFO.out.trans (show fwdB op x y op2 x2 y2 = false by unfold fwdB; simp [Ne.symm h3]))
    go_wp2_with fail
    exact bodyPost_ret (v := .tuple #[.agg #[.slice none 0 0, .slice none 0 0], .bool false]) (by simp [results, Try.results12, go_sem, r0, r1]) rfl ⟨_, by rw [HD.out], hno.out _ HD.out rfl _, hBz.out⟩
  by_cases h4 : y = x2
  · have HD := Lib.hid (HFO.out.trans (show fwdB op x y op2 x2 y2 = false by unfold fwdB; simp [h4]))
    go_wp2_with fail
    exact bodyPost_ret (v := .tuple #[.agg #[.slice none 0 0, .slice none 0 0], .bool false]) (by simp [results, Try.results12, go_sem, r0, r1]) rfl ⟨_, by rw [HD.out], hno.out _ HD.out rfl _, hBz.out⟩
  have HD := Lib.hid (HFO.out.trans (show fwdB op x y op2 x2 y2 = true by unfold fwdB; simp [h1, h2, h3]; exact fun e => h4 e.symm))
  go_wp2_with fail
  refine hco.mono ?_
  rintro E w3 ⟨rs, A, A', c, c', B2, rfl, hI, hRS, hof, hb3, hB2a, hB2b, hsep⟩
  have hrl : rs.length = s.len := by rw [← hof, ofR_len]
  obtain ⟨A5, c5, he5, hlc5, hm5, h05⟩ := hRS.form
  injection he5 with e51 e52 e53
  subst e51 e53
  obtain ⟨g, rfl, hg0, hg1⟩ := h05 (by omega)
  have HRS := Lib.hid hRS
  rw [hrl] at hRS ⊢
  have hown0 := hRS.own
  rw [hrl] at hown0
  rw [hrl] at hlc5
  obtain ⟨W3, hW3⟩ : ∃ z, w3.alloc (.cells #[.slice A ts.length c, .slice (some ⟨g, 0, none⟩) s.len c'] 29) = z := ⟨_, rfl⟩
  have hba : Below w3.heap.size w3 W3 := by rw [← hW3]; exact (Below.refl _ _).alloc (Nat.le_refl _) _
  have hOB : W3.heap[w3.heap.size]? = some (.cells #[.slice A ts.length c, .slice (some ⟨g, 0, none⟩) s.len c'] 29 (0, 0)) := by rw [← hW3]; exact heap_alloc_new w3 _
  have hWz3 : W3.heap.size = w3.heap.size + 1 := by rw [← hW3]; simp
  have hz3 := hb3.size
  have hownW := own_below hown0 hba
  have hin : ∀ j, j < 6 → ∃ u, W3.cell? ⟨g, (K + 1) * 6 + j, none⟩ = some u := fun j hj => by
    rw [hownW.cellAt _ (by omega)]
    exact ⟨_, List.getElem?_eq_getElem (by have h9 := hownW.1; rw [h9]; omega)⟩
  obtain ⟨u0, z0⟩ : ∃ u, W3.cell? ⟨g, (K + 1) * 6, none⟩ = some u := hin 0 (by omega)
  obtain ⟨u1, z1⟩ := hin 1 (by omega)
  obtain ⟨u2, z2⟩ := hin 2 (by omega)
  obtain ⟨u3, z3⟩ := hin 3 (by omega)
  obtain ⟨u4, z4⟩ := hin 4 (by omega)
  obtain ⟨u5, z5⟩ := hin 5 (by omega)
  have f0 := hownW.frozenAt ((K + 1) * 6)
  have f1 := hownW.frozenAt ((K + 1) * 6 + 1)
  have f2 := hownW.frozenAt ((K + 1) * 6 + 2)
  have f3 := hownW.frozenAt ((K + 1) * 6 + 3)
  have f4 := hownW.frozenAt ((K + 1) * 6 + 4)
  have f5 := hownW.frozenAt ((K + 1) * 6 + 5)
  have n1 : W3.cell? ⟨w1.heap.size + 1, 1, none⟩ = some (.int .i64 x2) := (hba.cell (by show w1.heap.size + 1 < _; omega)).trans ((hb3.cell (by show w1.heap.size + 1 < _; omega)).trans k1)
  have n2 : W3.cell? ⟨w1.heap.size, 2, none⟩ = some (.int .i64 y) := (hba.cell (by show w1.heap.size < _; omega)).trans ((hb3.cell (by show w1.heap.size < _; omega)).trans m2)
  have o0w : W3.cell? ⟨w3.heap.size, 0, none⟩ = some (.slice A ts.length c) := (cell_of_block hOB 0).trans rfl
  have o1w : W3.cell? ⟨w3.heap.size, 1, none⟩ = some (.slice (some ⟨g, 0, none⟩) s.len c') := (cell_of_block hOB 1).trans rfl
  have HRL := Lib.hid hrl
  have HI := Lib.hid hI
  have HB3 := Lib.hid hb3
  have HBA := Lib.hid hba
  have HOF := Lib.hid hof
  have HOWN := Lib.hid hownW
  have HSEP := Lib.hid hsep
  have HOB := Lib.hid hOB
  have HZ := Lib.hid hWz3
  clear hrl hown0 hlc5 hco hI hRS hof hb3 hsep hownW hba hOB hin r0 r1 y0 y1 hBz q0 q1 m0 m1 m2 k0 k1 k2 hWz3 HS2 HT2
  obtain ⟨w5, hw5⟩ : ∃ z, ((((((W3.setCell ⟨g, (K + 1) * 6, none⟩ (.int .i64 3)).setCell ⟨g, (K + 1) * 6 + 1, none⟩ (.int .i64 x2)).setCell ⟨g, (K + 1) * 6 + 2, none⟩ (.int .i64 y)).setCell ⟨g, (K + 1) * 6 + 3, none⟩ (.int .i64 0)).setCell ⟨g, (K + 1) * 6 + 4, none⟩ (.slice none 0 0)).setCell ⟨g, (K + 1) * 6 + 5, none⟩ (.slice none 0 0)) = z := ⟨_, rfl⟩
  have hone : One g W3 w5 := by rw [← hw5]; exact ((((((One.refl g W3).set _ _).set _ _).set _ _).set _ _).set _ _).set _ _
  have hown5 : w5.ownsRow B2 53 6 (.slice (some ⟨g, 0, none⟩) s.len c') s.len ((rs.set (K + 1) (⟨3, x2, y, 0, .nil, .nil, none, 0, none, 0⟩ : StR)).flatMap StR.cells) := by
    have h1 := (((((HOWN.out.stored' rfl ((K + 1) * 6) (.int .i64 3)).stored' rfl ((K + 1) * 6 + 1) (.int .i64 x2)).stored' rfl ((K + 1) * 6 + 2) (.int .i64 y)).stored' rfl ((K + 1) * 6 + 3) (.int .i64 0)).stored' rfl ((K + 1) * 6 + 4) (.slice none 0 0)).stored' rfl ((K + 1) * 6 + 5) (.slice none 0 0)
    rw [hw5] at h1
    have h2 := flat_set rs (K + 1) (⟨3, x2, y, 0, .nil, .nil, none, 0, none, 0⟩ : StR) (by rw [HRL.out]; omega)
    rw [← h2]
    exact h1
  have HW5 := Lib.hid hw5
  clear hw5
  have hz5 : w5.heap.size = w3.heap.size + 1 := hone.size.trans HZ.out
  have hfr : ofR (rs.set (K + 1) (⟨3, x2, y, 0, .nil, .nil, none, 0, none, 0⟩ : StR)) = fwdR s K := by
    rw [ofR_set rs (K + 1) _ (by rw [HRL.out]; omega), HOF.out]
    unfold fwdR
    rw [HDD.out]
    rfl
  have hfl : (fwdR s K).len = s.len := by rw [← hfr, ofR_len, List.length_set, HRL.out]
  have hkeep : ∀ q, B2 ≤ q → q < w3.heap.size → (Value.slice (some ⟨g, 0, none⟩) rs.length c').ownBlock ≠ some q → w5.heap[q]? = w3.heap[q]? := fun q _ q2 q3 => (hone.block q (fun e => q3 (by rw [e]; rfl))).trans (HBA.out.block q q2)
  have hR5 : RepV w5 B2 w5.heap.size (fwdR s K) (some ⟨g, 0, none⟩) c' := by
    have hf5 := own_form hown5
    obtain ⟨_, _, he5, h51, h52, _⟩ := hf5
    injection he5 with e1 e2 e3
    subst e3
    refine ⟨by rw [hfl]; exact h51, h52, fun _ => ⟨_, rfl, hg0, by show g < _; omega, ?_⟩⟩
    rw [← hfr]
    refine rep_of_cells _ _ (fun j u hj => World.ownsRow.cells hown5 (g := g) rfl j u hj) fun r hr => ?_
    rcases List.mem_or_eq_of_mem_set hr with hr2 | rfl
    · exact ⟨((HRS.out.firm r hr2).1 w5 hkeep).keep (Nat.le_refl _) (by omega) fun _ _ _ => rfl, ((HRS.out.firm r hr2).2 w5 hkeep).keep (Nat.le_refl _) (by omega) fun _ _ _ => rfl⟩
    · exact ⟨⟨Nat.le_refl _, Nat.zero_le _, fun h => absurd h (by show ¬ 0 < 0; omega)⟩, ⟨Nat.le_refl _, Nat.zero_le _, fun h => absurd h (by show ¬ 0 < 0; omega)⟩⟩
  have hI5 : IntsV w5 w2.heap.size w5.heap.size ts A c := by
    have h1 : RowI w5 w2.heap.size (.slice A ts.length c) ts := HI.out.keep fun q hq => by
      have h9 := HSEP.out q hq
      exact (hone.block q (by omega)).trans (HBA.out.block q (by omega))
    exact h1.intsLo
  have hb5 : Below w.heap.size w w5 := HBb.out.trans ((HB3.out.trans ((HBA.out.mono (by omega)).trans ((hone.below hg0).mono (by omega)))).mono (by omega))
  have hO5 := (hone.block w3.heap.size (by omega)).trans HOB.out
  have o0 : w5.cell? ⟨w3.heap.size, 0, none⟩ = some (.slice A ts.length c) := (cell_of_block hO5 0).trans rfl
  have o1 : w5.cell? ⟨w3.heap.size, 1, none⟩ = some (.slice (some ⟨g, 0, none⟩) s.len c') := (cell_of_block hO5 1).trans rfl
  have hR6 := (hone.block (w.heap.size + 1) (by omega)).trans ((HBA.out.block (w.heap.size + 1) (by omega)).trans ((HB3.out.block (w.heap.size + 1) (by omega)).trans HR2.out))
  have r0 : w5.cell? ⟨w.heap.size + 1, 0, none⟩ = some (.slice none 0 0) := (cell_of_block hR6 0).trans rfl
  have r1 : w5.cell? ⟨w.heap.size + 1, 1, none⟩ = some (.slice none 0 0) := (cell_of_block hR6 1).trans rfl
  have y0 := frozen_of_block hR6 0
  have y1 := frozen_of_block hR6 1
  have hkp : ∀ p : Addr, w2.heap.size ≤ p.block → ((w5.setCell ⟨w.heap.size + 1, 0, none⟩ (.slice A ts.length c)).setCell ⟨w.heap.size + 1, 1, none⟩ (.slice (some ⟨g, 0, none⟩) s.len c')).cell? p = w5.cell? p := fun p hp =>
    (World.cell?_setCell_other _ _ _ _ (fun e => by have h9 : w.heap.size + 1 = p.block := congrArg Addr.block e; omega)).trans (World.cell?_setCell_other _ _ _ _ (fun e => by have h9 : w.heap.size + 1 = p.block := congrArg Addr.block e; omega))
  have HI6 := Lib.hid (hI5.keep (lo' := w.heap.size) (hi' := ((w5.setCell ⟨w.heap.size + 1, 0, none⟩ (.slice A ts.length c)).setCell ⟨w.heap.size + 1, 1, none⟩ (.slice (some ⟨g, 0, none⟩) s.len c')).heap.size) (by omega) (by simp [World.setCell]) fun p hp _ => hkp p hp)
  have HR6 := Lib.hid (hR5.keep (lo' := w.heap.size) (hi' := ((w5.setCell ⟨w.heap.size + 1, 0, none⟩ (.slice A ts.length c)).setCell ⟨w.heap.size + 1, 1, none⟩ (.slice (some ⟨g, 0, none⟩) s.len c')).heap.size) (by omega) (by simp [World.setCell]) fun p hp _ => hkp p (by omega))
  have HB6 := Lib.hid ((hb5.setCell (p := ⟨w.heap.size + 1, 0, none⟩) (by simp) (.slice A ts.length c)).setCell (p := ⟨w.heap.size + 1, 1, none⟩) (by simp) (.slice (some ⟨g, 0, none⟩) s.len c'))
  have HFL := Lib.hid hfl
  clear hone hown5 hfr hfl hkeep hR5 hI5 hb5 hO5 hR6 hkp
  go_upto_region 9 with (fail)
  rw [HW5.out]
  clear z0 z1 z2 z3 z4 z5 f0 f1 f2 f3 f4 f5 n1 n2
  go_wp2_with fail
  exact bodyPost_ret (v := .tuple #[.agg #[.slice A ts.length c, .slice (some ⟨g, 0, none⟩) s.len c'], .bool true]) (by simp [results, Try.results12, go_sem, r0, r1]) rfl ⟨_, by rw [HD.out], by rw [HD.out]; unfold AnsS; rw [if_pos rfl]; exact ⟨A, _, c, c', by rw [show ((K : Int)).toNat = K from rfl, HFL.out], HI6.out, HR6.out⟩, HB6.out⟩

end Go.Proofs.Ytcpmodkplikmcaa
