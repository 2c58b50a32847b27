/-
  The model's draw of a program and the number of a point that it often has.
-/
import Derived.Test.YtlddoookojjleaaGreatDoorZDwL
import Derived.Test.YtlddoookojjleaaGreatDoorZDwE
import Derived.Test.YtlddoookojjleaaGreatDoorZL2Xb
namespace Go.Proofs.YtlddoookojjleaaGreatDoor
open Go.RowKit Go.Deep
set_option linter.unusedVariables false

set_option maxRecDepth 100000 in
set_option maxHeartbeats 2000000 in
theorem l3Place_any (nb cb : Nat) (Ab : Option Addr) (w : World) (hB : ByteV w w.heap.size nb Ab cb) : Calls Tryz.prog 22 #[.slice Ab nb cb] w (PlaceD w) := by
  obtain ⟨w0, hw0⟩ : ∃ w0, w.alloc (.cells #[.slice none 0 0, .slice none 0 0] 26) = w0 := ⟨_, rfl⟩
  have hb0 := (Below.refl w.heap.size w).alloc (Nat.le_refl _) (.cells #[.slice none 0 0, .slice none 0 0] 26)
  have X0 := Lib.hid (heap_alloc_new w (.cells #[.slice none 0 0, .slice none 0 0] 26))
  have hz0 : w.heap.size + 1 ≤ (w.alloc (.cells #[.slice none 0 0, .slice none 0 0] 26)).heap.size := Nat.le_of_eq (by simp)
  have HO := Lib.hid (l17Open_any nb cb Ab (w.alloc (.cells #[.slice none 0 0, .slice none 0 0] 26)) (hB.below hb0 (by simp)))
  rw [hw0] at X0 hz0 HO
  have HB0 : Hid (Below w.heap.size w w0) := by rw [← hw0]; exact hb0
  clear hb0 hB
  go_enter Tryz.func22, Tryz.ntmps22
  go_upto_region 1 with (fail)
  clear hw0
  go_wp2_with fail
  refine HO.out.mono ?_
  rintro E w1 ⟨rfl, hs1, hb1⟩
  have hz1 := hb1.size
  have hsl := hs1.lt
  obtain ⟨R, hR⟩ : ∃ R, w0.heap.size = R := ⟨_, rfl⟩
  have S1 := Lib.hid hs1
  have X1 := Lib.hid ((hb1.block w.heap.size (by omega)).trans X0.out)
  have N1 := Lib.hid (HB0.out.trans (hb1.mono (by omega)))
  rw [hR] at S1 hz0 hz1 hsl
  rw [hR]
  clear hs1 hb1 HO hR
  have HBR := Lib.hid (l2Branch_any R 0 w1 S1.out (by omega))
  go_wp2_with fail
  refine HBR.out.mono ?_
  rintro E w2 ⟨ts, s, At, As, ct, cs, rfl, hr2, ht, hs, hs2, hb2⟩
  have hz2 := hb2.size
  obtain ⟨n, hn⟩ : ∃ n, ts.length = n := ⟨_, rfl⟩
  obtain ⟨m, hm⟩ : ∃ m, s.len = m := ⟨_, rfl⟩
  have HN := Lib.hid hn
  have HM := Lib.hid hm
  rw [hn, hm]
  have hba := (Below.refl w2.heap.size w2).alloc (Nat.le_refl _) (.cells #[.slice At n ct, .slice As m cs] 26)
  have h3n := heap_alloc_new w2 (.cells #[.slice At n ct, .slice As m cs] 26)
  have h3z : w2.heap.size + 1 ≤ (w2.alloc (.cells #[.slice At n ct, .slice As m cs] 26)).heap.size := Nat.le_of_eq (by simp)
  obtain ⟨w3, hw3⟩ : ∃ w3, w2.alloc (.cells #[.slice At n ct, .slice As m cs] 26) = w3 := ⟨_, rfl⟩
  have HR3 := Lib.hid (hr2.below hba)
  have S3 := Lib.hid (hs2.below hba)
  have N3 := Lib.hid ((N1.out.trans ((hb2.below (by omega)).mono (by omega))).trans (hba.mono (by omega)))
  have X3 := Lib.hid ((hba.block w.heap.size (by omega)).trans ((hb2.block w.heap.size (by omega) (by omega)).trans X1.out))
  rw [hw3] at HR3 S3 N3 X3 h3n h3z
  have Y3 := Lib.hid h3n
  have HT := Lib.hid ht
  have HS := Lib.hid hs
  clear hn hm hba h3n hr2 ht hs hs2 hb2 HBR
  have HPO := specPointsOf_any ts s At As ct cs w3 (by have := HS.out; omega) (HR3.out.1.mono (Nat.zero_le _) (Nat.le_refl _)) (HR3.out.2.mono (Nat.zero_le _) (Nat.le_refl _))
  rw [HN.out, HM.out] at HPO
  replace HPO := Lib.hid HPO
  have y0 : w3.cell? ⟨w2.heap.size, 0, none⟩ = some (.slice At n ct) := (cell_of_block Y3.out 0).trans rfl
  have y1 : w3.cell? ⟨w2.heap.size, 1, none⟩ = some (.slice As m cs) := (cell_of_block Y3.out 1).trans rfl
  go_upto_region 3 with (fail)
  clear hw3
  go_wp2_with fail
  refine HPO.out.mono ?_
  rintro E w4 ⟨v, rfl, hrow, hb4⟩
  have hz4 := hb4.size
  obtain ⟨Av, cv, rfl⟩ := pRow_lenL hrow
  obtain ⟨l, hl⟩ : ∃ l, (pointsB (validB ts s) s).length = l := ⟨_, rfl⟩
  have hl9 : l ≤ 90000 := by rw [← hl]; exact points_lenL _ _ (by have := HS.out; omega)
  rw [hl]
  have HR4 := Lib.hid (HR3.out.below hb4)
  have S4 := Lib.hid (S3.out.below hb4)
  have N4 := Lib.hid (N3.out.trans (hb4.mono (by omega)))
  have Y4 := Lib.hid ((hb4.block w2.heap.size (by omega)).trans Y3.out)
  have X4 := Lib.hid ((hb4.block w.heap.size (by omega)).trans X3.out)
  clear hrow hb4 HPO y0 y1 hl
  by_cases hl0 : l = 0
  · subst hl0
    have S5 := S4
    have N5 := N4
    have Y5 := Y4
    have X5 := X4
    have HR5 := HR4
    go_upto_region 5 with (fail)
    have hK0 : PrK w.heap.size w2.heap.size (.slice At n ct) (.slice As m cs) w4 := prK_mk Y5.out X5.out
    have hK1 : PrK w.heap.size w2.heap.size (.slice At n ct) (.slice As m cs) w4.drew := hK0
    have hbl := ((Below.refl w4.heap.size w4).alloc (Nat.le_refl _) (.cells #[.int .i64 (-1), .int .i64 60, .int .i64 0] 3)).drew
    have hK2 : PrK w.heap.size w2.heap.size (.slice At n ct) (.slice As m cs) (w4.alloc (.cells #[.int .i64 (-1), .int .i64 60, .int .i64 0] 3)).drew := prK_mk ((hbl.block w2.heap.size (by omega)).trans Y5.out) ((hbl.block w.heap.size (by omega)).trans X5.out)
    have Y6 := Lib.hid ((hbl.block w2.heap.size (by omega)).trans Y5.out)
    have X6 := Lib.hid ((hbl.block w.heap.size (by omega)).trans X5.out)
    have HNM := Lib.hid (num_any R _ w4.heap.size [-1, 60, 0] (w4.alloc (.cells #[.int .i64 (-1), .int .i64 60, .int .i64 0] 3)).drew (heap_alloc_new w4 _) (by omega) (by decide) (by decide) (S5.out.below hbl) (by omega))
    have HBL := Lib.hid hbl
    have hne : w.heap.size ≠ w2.heap.size := by omega
    clear hbl
    go_region_held3 (PrK w.heap.size w2.heap.size (.slice At n ct) (.slice As m cs))
      (first | with_reducible exact hK0 | with_reducible exact hK1 | with_reducible exact hK2 | with_reducible exact hK3 | with_reducible exact prK_put hK3 hne)
      ((go_at_call 25; refine HNM.out.mono ?_; rintro E w7 ⟨q, hq, rfl, ks7, ko7⟩; have hY7 := (ko7.block w2.heap.size (by omega)).trans Y6.out; have hX7 := (ko7.block w.heap.size (by omega)).trans X6.out; have hK3 : PrK w.heap.size w2.heap.size (.slice At n ct) (.slice As m cs) w7 := prK_mk hY7 hX7))
    have k7 : w4.heap.size ≤ w7.heap.size := by rw [ko7.size]; exact HBL.out.size
    have HRF := Lib.hid (((((HR5.out.below HBL.out).but (But.of_one ko7) (by omega)).setLow (o := 0) (x := .slice At n ct) (show w.heap.size < w1.heap.size by omega)).setLow (o := 1) (x := .slice As m cs) (show w.heap.size < w1.heap.size by omega)).mono (show w.heap.size ≤ w1.heap.size by omega))
    have HBF := Lib.hid ((((N5.out.trans (HBL.out.mono (by omega))).trans (ko7.below (by omega))).setCell (p := ⟨w.heap.size, 0, none⟩) (Nat.le_refl _) (.slice At n ct)).setCell (p := ⟨w.heap.size, 1, none⟩) (Nat.le_refl _) (.slice As m cs))
    have HQ : Hid (-1 ≤ q ∧ q ≤ 100000) := by
      simp only [List.mem_cons, List.not_mem_nil, or_false] at hq
      unfold Hid
      omega
    clear hq
    have z0 : w7.cell? ⟨w.heap.size, 0, none⟩ = some (.slice none 0 0) := (cell_of_block hX7 0).trans rfl
    have z1 : w7.cell? ⟨w.heap.size, 1, none⟩ = some (.slice none 0 0) := (cell_of_block hX7 1).trans rfl
    clear hK0 hK1 hK2 hK3 HNM ks7 ko7 hY7 hX7
    go_wp2_with fail
    exact bodyPost_ret (v := .tuple #[.agg #[.slice At n ct, .slice As m cs], .int .i64 q]) (by simp [results, Tryz.results22, go_sem, z0, z1]) rfl ⟨ts, s, At, As, ct, cs, q, by rw [HN.out, HM.out], HRF.out, HT.out, HS.out, HQ.out, HBF.out⟩
  · have hl1 : (l : Int) ≠ 0 := by omega
    have HPK := Lib.hid (pick_any R _ 12 w4 (by omega) (by omega) S4.out (by omega))
    go_wp2_with fail
    refine HPK.out.mono ?_
    rintro E w5 ⟨k, hk, rfl, ks5, ko5⟩
    have hz5 : w5.heap.size = w4.heap.size := ko5.size
    have HZ5 := Lib.hid hz5
    have hz5' : w4.heap.size ≤ w5.heap.size := Nat.le_of_eq hz5.symm
    have S5 := Lib.hid ks5
    have N5 := Lib.hid (N4.out.trans (ko5.below (by omega)))
    have Y5 := Lib.hid ((ko5.block w2.heap.size (by omega)).trans Y4.out)
    have X5 := Lib.hid ((ko5.block w.heap.size (by omega)).trans X4.out)
    have HR5 := Lib.hid (HR4.out.but (But.of_one ko5) (by omega))
    clear ks5 ko5 HPK hz5
    by_cases hk0 : k = 0
    · subst hk0
      go_upto_region 5 with (fail)
      have hK0 : PrK w.heap.size w2.heap.size (.slice At n ct) (.slice As m cs) w5 := prK_mk Y5.out X5.out
      have hK1 : PrK w.heap.size w2.heap.size (.slice At n ct) (.slice As m cs) w5.drew := hK0
      have hbl := ((Below.refl w5.heap.size w5).alloc (Nat.le_refl _) (.cells #[.int .i64 (-1), .int .i64 60, .int .i64 0] 3)).drew
      have hK2 : PrK w.heap.size w2.heap.size (.slice At n ct) (.slice As m cs) (w5.alloc (.cells #[.int .i64 (-1), .int .i64 60, .int .i64 0] 3)).drew := prK_mk ((hbl.block w2.heap.size (by omega)).trans Y5.out) ((hbl.block w.heap.size (by omega)).trans X5.out)
      have Y6 := Lib.hid ((hbl.block w2.heap.size (by omega)).trans Y5.out)
      have X6 := Lib.hid ((hbl.block w.heap.size (by omega)).trans X5.out)
      have HNM := Lib.hid (num_any R _ w5.heap.size [-1, 60, 0] (w5.alloc (.cells #[.int .i64 (-1), .int .i64 60, .int .i64 0] 3)).drew (heap_alloc_new w5 _) (by omega) (by decide) (by decide) (S5.out.below hbl) (by omega))
      have HBL := Lib.hid hbl
      have hne : w.heap.size ≠ w2.heap.size := by omega
      clear hbl
      go_region_held3 (PrK w.heap.size w2.heap.size (.slice At n ct) (.slice As m cs))
        (first | with_reducible exact hK0 | with_reducible exact hK1 | with_reducible exact hK2 | with_reducible exact hK3 | with_reducible exact prK_put hK3 hne)
        ((go_at_call 25; refine HNM.out.mono ?_; rintro E w7 ⟨q, hq, rfl, ks7, ko7⟩; have hY7 := (ko7.block w2.heap.size (by omega)).trans Y6.out; have hX7 := (ko7.block w.heap.size (by omega)).trans X6.out; have hK3 : PrK w.heap.size w2.heap.size (.slice At n ct) (.slice As m cs) w7 := prK_mk hY7 hX7))
      have k7 : w5.heap.size ≤ w7.heap.size := by rw [ko7.size]; exact HBL.out.size
      have HRF := Lib.hid (((((HR5.out.below HBL.out).but (But.of_one ko7) (by omega)).setLow (o := 0) (x := .slice At n ct) (show w.heap.size < w1.heap.size by omega)).setLow (o := 1) (x := .slice As m cs) (show w.heap.size < w1.heap.size by omega)).mono (show w.heap.size ≤ w1.heap.size by omega))
      have HBF := Lib.hid ((((N5.out.trans (HBL.out.mono (by omega))).trans (ko7.below (by omega))).setCell (p := ⟨w.heap.size, 0, none⟩) (Nat.le_refl _) (.slice At n ct)).setCell (p := ⟨w.heap.size, 1, none⟩) (Nat.le_refl _) (.slice As m cs))
      have HQ : Hid (-1 ≤ q ∧ q ≤ 100000) := by
        simp only [List.mem_cons, List.not_mem_nil, or_false] at hq
        unfold Hid
        omega
      clear hq
      have z0 : w7.cell? ⟨w.heap.size, 0, none⟩ = some (.slice none 0 0) := (cell_of_block hX7 0).trans rfl
      have z1 : w7.cell? ⟨w.heap.size, 1, none⟩ = some (.slice none 0 0) := (cell_of_block hX7 1).trans rfl
      clear hK0 hK1 hK2 hK3 HNM ks7 ko7 hY7 hX7
      go_wp2_with fail
      exact bodyPost_ret (v := .tuple #[.agg #[.slice At n ct, .slice As m cs], .int .i64 q]) (by simp [results, Tryz.results22, go_sem, z0, z1]) rfl ⟨ts, s, At, As, ct, cs, q, by rw [HN.out, HM.out], HRF.out, HT.out, HS.out, HQ.out, HBF.out⟩
    · have hk1 : ((k : Int) == 0) = false := by simp; omega
      go_upto_region 6 with (fail)
      have hK0 : PrK w.heap.size w2.heap.size (.slice At n ct) (.slice As m cs) w5 := prK_mk Y5.out X5.out
      have hK1 : PrK w.heap.size w2.heap.size (.slice At n ct) (.slice As m cs) w5.drew := hK0
      have HNM := Lib.hid (pick_any R _ (l : Int) w5.drew (by omega) (by omega) S5.out (by omega))
      have hne : w.heap.size ≠ w2.heap.size := by omega
      go_region_held3 (PrK w.heap.size w2.heap.size (.slice At n ct) (.slice As m cs))
        (first | with_reducible exact hK0 | with_reducible exact hK1 | with_reducible exact hK3 | with_reducible exact prK_put hK3 hne)
        ((go_at_call 24; refine HNM.out.mono ?_; rintro E w7 ⟨q, hq, rfl, ks7, ko7⟩; have hY7 := (ko7.block w2.heap.size (by omega)).trans Y5.out; have hX7 := (ko7.block w.heap.size (by omega)).trans X5.out; have hK3 : PrK w.heap.size w2.heap.size (.slice At n ct) (.slice As m cs) w7 := prK_mk hY7 hX7))
      have k7 : w5.heap.size ≤ w7.heap.size := Nat.le_of_eq ko7.size.symm
      have HRF := Lib.hid (((((HR5.out.below ((Below.refl w5.heap.size w5).drew)).but (But.of_one ko7) (by omega)).setLow (o := 0) (x := .slice At n ct) (show w.heap.size < w1.heap.size by omega)).setLow (o := 1) (x := .slice As m cs) (show w.heap.size < w1.heap.size by omega)).mono (show w.heap.size ≤ w1.heap.size by omega))
      have HBF := Lib.hid ((((N5.out.trans (((Below.refl w5.heap.size w5).drew).mono (by omega))).trans (ko7.below (by omega))).setCell (p := ⟨w.heap.size, 0, none⟩) (Nat.le_refl _) (.slice At n ct)).setCell (p := ⟨w.heap.size, 1, none⟩) (Nat.le_refl _) (.slice As m cs))
      have HQ : Hid (-1 ≤ (q : Int) ∧ (q : Int) ≤ 100000) := by
        unfold Hid
        omega
      clear hq
      have z0 : w7.cell? ⟨w.heap.size, 0, none⟩ = some (.slice none 0 0) := (cell_of_block hX7 0).trans rfl
      have z1 : w7.cell? ⟨w.heap.size, 1, none⟩ = some (.slice none 0 0) := (cell_of_block hX7 1).trans rfl
      clear hK0 hK1 hK3 HNM ks7 ko7 hY7 hX7
      go_wp2_with fail
      exact bodyPost_ret (v := .tuple #[.agg #[.slice At n ct, .slice As m cs], .int .i64 q]) (by simp [results, Tryz.results22, go_sem, z0, z1]) rfl ⟨ts, s, At, As, ct, cs, q, by rw [HN.out, HM.out], HRF.out, HT.out, HS.out, HQ.out, HBF.out⟩

end Go.Proofs.YtlddoookojjleaaGreatDoor
