/-
  Whatever the bytes, of two unique pointers from the same one only the second one is left. Conditions: the sentinel errors are laid as the program's text lays them.
-/
import Derived.Test.YtfkoobdlhdolbaaDoorKO
namespace Go.Proofs.YtfkoobdlhdolbaaDoor
open Go.RowKit Go.Deep
set_option linter.unusedVariables false

set_option maxRecDepth 100000 in
set_option maxHeartbeats 1000000 in
theorem walkFnBorrowTwice (n c : Nat) (A : Option Addr) (W : World) (aI aF aL aR : Addr) (hB : ByteV W W.heap.size n A c) (hE : Errs W aI aF aL aR) :
    Calls Tryd.prog 11 #[.slice A n c] W fun e w' => e = .returned (.bool true) ∧ Below W.heap.size W w' := by
  have hnc := hB.1
  have hcm := hB.2.1
  unfold maxLen at hcm
  by_cases hn : n ≤ 1048576
  · skip
    have HC := Lib.hid (drawBorrowCell_any n c A W hB)
    have HE := Lib.hid hE
    clear hB hE
    go_enter Tryd.func11, Tryd.ntmps11
    go_wp2_with fail
    refine HC.out.mono ?_
    rintro E w1 ⟨cs, A1, c1, x, t, rfl, hr, hsz, hb⟩
    clear HC
    have hB1 := hb
    have sz1 := hb.size
    have H := Lib.hid hr
    clear hr hb
    obtain ⟨m1, ⟨y0, y1⟩, k1, hm1⟩ : ∃ m pr k, borrowA cs x t = (m, pr, k) := ⟨_, _, _, rfl⟩
    have z1 : m1.length + tagSum m1 ≤ 41 := by have h := borrowA_sum (cs := cs) (x := x) (t := t); rw [hm1] at h; simp only at h; omega
    have HM1 := Lib.hid hm1
    clear hm1
    go_upto_region 4 with fail
    have hb := (Below.refl w1.heap.size w1).alloc (Nat.le_refl _) (.cells #[.int .i64 x, .int .i64 t] 25)
    have hn := heap_alloc_new w1 (.cells #[.int .i64 x, .int .i64 t] 25)
    have hz : (w1.alloc (.cells #[.int .i64 x, .int .i64 t] 25)).heap.size = w1.heap.size + 1 := by simp
    obtain ⟨w2, hnw⟩ : ∃ zz, w1.alloc (.cells #[.int .i64 x, .int .i64 t] 25) = zz := ⟨_, rfl⟩
    rw [hnw] at hb hn hz ⊢
    have H := Lib.hid (H.out.below hb)
    have hB2 := hB1.trans (hb.mono hB1.size)
    have sz2 := hb.size
    clear hB1
    have PX := Lib.hid hn
    have zPX := Nat.le_of_eq hz.symm
    clear hb hn hnw hz
    have cPX0 := (cell_of_block PX.out 0).trans (show _ = some (.int .i64 x) from rfl)
    have cPX1 := (cell_of_block PX.out 1).trans (show _ = some (.int .i64 t) from rfl)
    go_wp2_with fail
    refine (impl_borrow cs _ _ _ x t w2 aI aF aL aR H.out.reads (by omega) (HE.out.below hB2) HM1.out).mono ?_
    rintro E w3 ⟨A2, n2, c2, rfl, hr, hb⟩
    have hn0 := hr.reads.len.1
    subst hn0
    have H := Lib.hid (H.out.below hb)
    have PX := Lib.hid ((hb.block w1.heap.size (heap_lt PX.out)).trans PX.out)
    have hB3 := hB2.trans (hb.mono hB2.size)
    have sz3 := hb.size
    clear hB2
    have R2 := Lib.hid hr
    clear hr hb
    clear cPX0 cPX1
    go_upto_region 5 with fail
    have hb := (Below.refl w3.heap.size w3).alloc (Nat.le_refl _) (.cells #[.int .i64 y0, .int .i64 y1] 25)
    have hn := heap_alloc_new w3 (.cells #[.int .i64 y0, .int .i64 y1] 25)
    have hz : (w3.alloc (.cells #[.int .i64 y0, .int .i64 y1] 25)).heap.size = w3.heap.size + 1 := by simp
    obtain ⟨w4, hnw⟩ : ∃ zz, w3.alloc (.cells #[.int .i64 y0, .int .i64 y1] 25) = zz := ⟨_, rfl⟩
    rw [hnw] at hb hn hz ⊢
    have H := Lib.hid (H.out.below hb)
    have R2 := Lib.hid (R2.out.below hb)
    have PX := Lib.hid ((hb.block w1.heap.size (heap_lt PX.out)).trans PX.out)
    have hB4 := hB3.trans (hb.mono hB3.size)
    have sz4 := hb.size
    clear hB3
    have PY := Lib.hid hn
    have zPY := Nat.le_of_eq hz.symm
    clear hb hn hnw hz
    have cPX0 := (cell_of_block PX.out 0).trans (show _ = some (.int .i64 x) from rfl)
    have cPX1 := (cell_of_block PX.out 1).trans (show _ = some (.int .i64 t) from rfl)
    go_wp2_with fail
    refine (spec_borrow cs _ _ _ x t w4 H.out.reads (by omega) HM1.out).mono ?_
    rintro E w5 ⟨A3, n3, c3, rfl, hr, hb⟩
    have hn0 := hr.reads.len.1
    subst hn0
    have H := Lib.hid (H.out.below hb)
    have R2 := Lib.hid (R2.out.below hb)
    have PX := Lib.hid ((hb.block w1.heap.size (heap_lt PX.out)).trans PX.out)
    have PY := Lib.hid ((hb.block w3.heap.size (heap_lt PY.out)).trans PY.out)
    have hB5 := hB4.trans (hb.mono hB4.size)
    have sz5 := hb.size
    clear hB4
    have R3 := Lib.hid hr
    clear hr hb
    clear cPX0 cPX1
    go_upto_region 6 with fail
    have hb := (Below.refl w5.heap.size w5).alloc (Nat.le_refl _) (.cells #[.int .i64 y0, .int .i64 y1] 25)
    have hn := heap_alloc_new w5 (.cells #[.int .i64 y0, .int .i64 y1] 25)
    have hz : (w5.alloc (.cells #[.int .i64 y0, .int .i64 y1] 25)).heap.size = w5.heap.size + 1 := by simp
    obtain ⟨w6, hnw⟩ : ∃ zz, w5.alloc (.cells #[.int .i64 y0, .int .i64 y1] 25) = zz := ⟨_, rfl⟩
    rw [hnw] at hb hn hz ⊢
    have H := Lib.hid (H.out.below hb)
    have R2 := Lib.hid (R2.out.below hb)
    have R3 := Lib.hid (R3.out.below hb)
    have PX := Lib.hid ((hb.block w1.heap.size (heap_lt PX.out)).trans PX.out)
    have PY := Lib.hid ((hb.block w3.heap.size (heap_lt PY.out)).trans PY.out)
    have hB6 := hB5.trans (hb.mono hB5.size)
    have sz6 := hb.size
    clear hB5
    have PW := Lib.hid hn
    have zPW := Nat.le_of_eq hz.symm
    clear hb hn hnw hz
    go_wp2_with fail
    refine (bcCells_any m1 _ _ _ _ _ w6 R2.out.reads R3.out.reads).mono ?_
    rintro E w7 ⟨rfl, hb⟩
    have H := Lib.hid (H.out.below hb)
    have R2 := Lib.hid (R2.out.below hb)
    have R3 := Lib.hid (R3.out.below hb)
    have PX := Lib.hid ((hb.block w1.heap.size (heap_lt PX.out)).trans PX.out)
    have PY := Lib.hid ((hb.block w3.heap.size (heap_lt PY.out)).trans PY.out)
    have PW := Lib.hid ((hb.block w5.heap.size (heap_lt PW.out)).trans PW.out)
    have hB7 := hB6.trans (hb.mono hB6.size)
    have sz7 := hb.size
    clear hB6
    clear hb
    have cPY0 := (cell_of_block PY.out 0).trans (show _ = some (.int .i64 y0) from rfl)
    have cPY1 := (cell_of_block PY.out 1).trans (show _ = some (.int .i64 y1) from rfl)
    have cPW0 := (cell_of_block PW.out 0).trans (show _ = some (.int .i64 y0) from rfl)
    have cPW1 := (cell_of_block PW.out 1).trans (show _ = some (.int .i64 y1) from rfl)
    have hkk : ((k1 != k1) : Bool) = false := by simp
    by_cases hk : k1 = 0
    · subst hk
      go_upto_region 8 with fail
      clear hkk
      clear cPY0 cPY1 cPW0 cPW1
      obtain ⟨m2, ⟨z0, z1⟩, k2, hm2⟩ : ∃ m pr k, borrowA m1 x t = (m, pr, k) := ⟨_, _, _, rfl⟩
      have z2 : m2.length + tagSum m2 ≤ 42 := by have h := borrowA_sum (cs := m1) (x := x) (t := t); rw [hm2] at h; simp only at h; omega
      have HM2 := Lib.hid hm2
      clear hm2
      have cPX0 := (cell_of_block PX.out 0).trans (show _ = some (.int .i64 x) from rfl)
      have cPX1 := (cell_of_block PX.out 1).trans (show _ = some (.int .i64 t) from rfl)
      go_wp2_with fail
      refine (impl_borrow m1 _ _ _ x t w7 aI aF aL aR R2.out.reads (by omega) (HE.out.below hB7) HM2.out).mono ?_
      rintro E w8 ⟨A4, n4, c4, rfl, hr, hb⟩
      have hn0 := hr.reads.len.1
      subst hn0
      have H := Lib.hid (H.out.below hb)
      have R2 := Lib.hid (R2.out.below hb)
      have R3 := Lib.hid (R3.out.below hb)
      have PX := Lib.hid ((hb.block w1.heap.size (heap_lt PX.out)).trans PX.out)
      have PY := Lib.hid ((hb.block w3.heap.size (heap_lt PY.out)).trans PY.out)
      have PW := Lib.hid ((hb.block w5.heap.size (heap_lt PW.out)).trans PW.out)
      have hB8 := hB7.trans (hb.mono hB7.size)
      have sz8 := hb.size
      clear hB7
      have R4 := Lib.hid hr
      clear hr hb
      clear cPX0 cPX1
      obtain ⟨m3, v3, k3, hm3⟩ : ∃ m v k, readA m2 y0 y1 = (m, v, k) := ⟨_, _, _, rfl⟩
      obtain ⟨m4, v4, k4, hm4⟩ : ∃ m v k, readA m2 z0 z1 = (m, v, k) := ⟨_, _, _, rfl⟩
      have hall : k2 = 0 → k3 = 2 ∧ k4 = 0 ∧ y1 < z1 := by
        intro h0
        subst h0
        obtain ⟨e1, ⟨v, mm, e2⟩, e3⟩ := borrow_twice HM1.out HM2.out
        have e1 : readA m2 y0 y1 = (m2, 0, 2) := e1
        have e2 : readA m2 z0 z1 = (mm, v, 0) := e2
        rw [hm3] at e1
        injection e1 with e4 e5
        injection e5 with e5 e6
        rw [hm4] at e2
        injection e2 with e7 e8
        injection e8 with e8 e9
        exact ⟨e6, e9, e3⟩
      have HALL := Lib.hid hall
      have HM3 := Lib.hid hm3
      have HM4 := Lib.hid hm4
      clear hall hm3 hm4
      go_upto_region 9 with fail
      have hb := (Below.refl w8.heap.size w8).alloc (Nat.le_refl _) (.cells #[.int .i64 z0, .int .i64 z1] 25)
      have hn := heap_alloc_new w8 (.cells #[.int .i64 z0, .int .i64 z1] 25)
      have hz : (w8.alloc (.cells #[.int .i64 z0, .int .i64 z1] 25)).heap.size = w8.heap.size + 1 := by simp
      obtain ⟨w9, hnw⟩ : ∃ zz, w8.alloc (.cells #[.int .i64 z0, .int .i64 z1] 25) = zz := ⟨_, rfl⟩
      rw [hnw] at hb hn hz ⊢
      have H := Lib.hid (H.out.below hb)
      have R2 := Lib.hid (R2.out.below hb)
      have R3 := Lib.hid (R3.out.below hb)
      have R4 := Lib.hid (R4.out.below hb)
      have PX := Lib.hid ((hb.block w1.heap.size (heap_lt PX.out)).trans PX.out)
      have PY := Lib.hid ((hb.block w3.heap.size (heap_lt PY.out)).trans PY.out)
      have PW := Lib.hid ((hb.block w5.heap.size (heap_lt PW.out)).trans PW.out)
      have hB9 := hB8.trans (hb.mono hB8.size)
      have sz9 := hb.size
      clear hB8
      have PZ := Lib.hid hn
      have zPZ := Nat.le_of_eq hz.symm
      clear hb hn hnw hz
      have cPY0 := (cell_of_block PY.out 0).trans (show _ = some (.int .i64 y0) from rfl)
      have cPY1 := (cell_of_block PY.out 1).trans (show _ = some (.int .i64 y1) from rfl)
      go_wp2_with fail
      refine (impl_read m2 _ _ _ y0 y1 w9 aI aF aL aR R4.out.reads (by omega) (HE.out.below hB9) HM3.out).mono ?_
      rintro E w10 ⟨A5, n5, c5, rfl, hr, hb⟩
      have hn0 := hr.reads.len.1
      subst hn0
      have H := Lib.hid (H.out.below hb)
      have R2 := Lib.hid (R2.out.below hb)
      have R3 := Lib.hid (R3.out.below hb)
      have R4 := Lib.hid (R4.out.below hb)
      have PX := Lib.hid ((hb.block w1.heap.size (heap_lt PX.out)).trans PX.out)
      have PY := Lib.hid ((hb.block w3.heap.size (heap_lt PY.out)).trans PY.out)
      have PW := Lib.hid ((hb.block w5.heap.size (heap_lt PW.out)).trans PW.out)
      have PZ := Lib.hid ((hb.block w8.heap.size (heap_lt PZ.out)).trans PZ.out)
      have hB10 := hB9.trans (hb.mono hB9.size)
      have sz10 := hb.size
      clear hB9
      have R5 := Lib.hid hr
      clear hr hb
      clear cPY0 cPY1
      have cPZ0 := (cell_of_block PZ.out 0).trans (show _ = some (.int .i64 z0) from rfl)
      have cPZ1 := (cell_of_block PZ.out 1).trans (show _ = some (.int .i64 z1) from rfl)
      go_wp2_with fail
      refine (impl_read m2 _ _ _ z0 z1 w10 aI aF aL aR R4.out.reads (by omega) (HE.out.below hB10) HM4.out).mono ?_
      rintro E w11 ⟨A6, n6, c6, rfl, hr, hb⟩
      have hn0 := hr.reads.len.1
      subst hn0
      have H := Lib.hid (H.out.below hb)
      have R2 := Lib.hid (R2.out.below hb)
      have R3 := Lib.hid (R3.out.below hb)
      have R4 := Lib.hid (R4.out.below hb)
      have R5 := Lib.hid (R5.out.below hb)
      have PX := Lib.hid ((hb.block w1.heap.size (heap_lt PX.out)).trans PX.out)
      have PY := Lib.hid ((hb.block w3.heap.size (heap_lt PY.out)).trans PY.out)
      have PW := Lib.hid ((hb.block w5.heap.size (heap_lt PW.out)).trans PW.out)
      have PZ := Lib.hid ((hb.block w8.heap.size (heap_lt PZ.out)).trans PZ.out)
      have hB11 := hB10.trans (hb.mono hB10.size)
      have sz11 := hb.size
      clear hB10
      have R6 := Lib.hid hr
      clear hr hb
      clear cPZ0 cPZ1
      by_cases hk2 : k2 = 0
      · obtain ⟨e1, e2, e3⟩ := HALL.out hk2
        subst hk2 e1 e2
        have cPY0 := (cell_of_block PY.out 0).trans (show _ = some (.int .i64 y0) from rfl)
        have cPY1 := (cell_of_block PY.out 1).trans (show _ = some (.int .i64 y1) from rfl)
        have cPZ0 := (cell_of_block PZ.out 0).trans (show _ = some (.int .i64 z0) from rfl)
        have cPZ1 := (cell_of_block PZ.out 1).trans (show _ = some (.int .i64 z1) from rfl)
        go_wp2_with fail
        go_ret
        exact ⟨rfl, hB11⟩
      · skip
        go_wp2_with fail
        go_ret
        exact ⟨rfl, hB11⟩
    · skip
      go_wp2_with fail
      refine (bcCells_any m1 _ _ _ _ _ w7 R2.out.reads R3.out.reads).mono ?_
      rintro E w8 ⟨rfl, hb⟩
      have H := Lib.hid (H.out.below hb)
      have R2 := Lib.hid (R2.out.below hb)
      have R3 := Lib.hid (R3.out.below hb)
      have PX := Lib.hid ((hb.block w1.heap.size (heap_lt PX.out)).trans PX.out)
      have PY := Lib.hid ((hb.block w3.heap.size (heap_lt PY.out)).trans PY.out)
      have PW := Lib.hid ((hb.block w5.heap.size (heap_lt PW.out)).trans PW.out)
      have hB8 := hB7.trans (hb.mono hB7.size)
      have sz8 := hb.size
      clear hB7
      clear hb
      clear cPY0 cPY1 cPW0 cPW1
      have cPY0 := (cell_of_block PY.out 0).trans (show _ = some (.int .i64 y0) from rfl)
      have cPY1 := (cell_of_block PY.out 1).trans (show _ = some (.int .i64 y1) from rfl)
      have cPW0 := (cell_of_block PW.out 0).trans (show _ = some (.int .i64 y0) from rfl)
      have cPW1 := (cell_of_block PW.out 1).trans (show _ = some (.int .i64 y1) from rfl)
      go_wp2_with fail
      go_ret
      exact ⟨rfl, hB8⟩
  · clear hB hE
    go_enter Tryd.func11, Tryd.ntmps11
    go_wp2_with fail
    go_ret
    exact ⟨rfl, Below.refl _ _⟩

end Go.Proofs.YtfkoobdlhdolbaaDoor
