/-
  The model's draw of a program that is sometimes bent.
-/
import Derived.Test.YtlddoookojjleaaGreatDoorZDwD
namespace Go.Proofs.YtlddoookojjleaaGreatDoor
open Go.RowKit Go.Deep
set_option linter.unusedVariables false

/-- What the draw of a program leaves, bent or not. -/
def ProgD (R P : Nat) (w : World) (E : Ending) (w' : World) : Prop := ∃ (ts : List Int) (s : Sts) (At As : Option Addr) (ct cs : Nat), E = .returned (.agg #[.slice At ts.length ct, .slice As s.len cs]) ∧
  ReadsP w' w.heap.size ts s At As ct cs ∧ ts.length ≤ 1000 ∧ s.size ≤ 40000 ∧ SrcV w' R (P + 2010) ∧ But R w w'

set_option maxRecDepth 100000 in
set_option maxHeartbeats 2000000 in
theorem l2Branch_any (R P : Nat) (w : World) (hs : SrcV w R P) (hP : P ≤ 1000) : Calls Tryz.prog 37 #[.pointer (some ⟨R, 0, none⟩)] w (ProgD R P w) := by
  have hRw := hs.lt
  obtain ⟨w0, hw0⟩ : ∃ w0, w.alloc (.cells #[.slice none 0 0, .slice none 0 0] 26) = w0 := ⟨_, rfl⟩
  have hb0 := (Below.refl w.heap.size w).alloc (Nat.le_refl _) (.cells #[.slice none 0 0, .slice none 0 0] 26)
  have X0 := Lib.hid (heap_alloc_new w (.cells #[.slice none 0 0, .slice none 0 0] 26))
  have S0 := Lib.hid (hs.below hb0)
  have N0 := Lib.hid (But.of_below (R := R) hb0 (Nat.le_refl _))
  have hz0 : w.heap.size + 1 ≤ (w.alloc (.cells #[.slice none 0 0, .slice none 0 0] 26)).heap.size := Nat.le_of_eq (by simp)
  rw [hw0] at X0 S0 N0 hz0
  clear hb0 hs
  go_enter Tryz.func37, Tryz.ntmps37
  go_upto_region 1 with (fail)
  clear hw0
  go_wp2_with fail
  refine (l1Texts_any w0).mono ?_
  rintro E w1 ⟨cs, rfl, he1, hcs⟩
  have hb1 : Below w0.heap.size w0 w1 := by rw [he1]; exact (Below.refl _ _).alloc (Nat.le_refl _) _
  have hT1 : w1.heap[w0.heap.size]? = some (.cells cs 9 (0, 0)) := by rw [he1]; exact heap_alloc_new w0 _
  have hz1 : w0.heap.size + 1 ≤ w1.heap.size := by rw [he1]; exact Nat.le_of_eq (by simp)
  have HT1 := Lib.hid hT1
  have S1 := Lib.hid (S0.out.below hb1)
  have N1 := Lib.hid (N0.out.trans (But.of_below hb1 (Nat.le_refl _)))
  have X1 := Lib.hid ((hb1.block w.heap.size (by omega)).trans X0.out)
  have HCS := Lib.hid hcs
  clear he1 hb1 hT1 hcs
  have HK := Lib.hid (pick_any R P 2 w1 (by omega) (by omega) S1.out (by omega))
  go_wp2_with fail
  refine HK.out.mono ?_
  rintro E w2 ⟨v, hv, rfl, ks, ko⟩
  have kz := Nat.le_of_eq ko.size.symm
  have HT2 := Lib.hid ((ko.block w0.heap.size (by omega)).trans HT1.out)
  have S2 := Lib.hid ks
  have N2 := Lib.hid (N1.out.trans (But.of_one ko))
  have X2 := Lib.hid ((ko.block w.heap.size (by omega)).trans X1.out)
  clear ks ko HK HT1
  by_cases hv0 : v = 0
  · subst hv0
    clear hv
    have HK := Lib.hid (pick_any R (P + 1) 8 w2 (by omega) (by omega) S2.out (by omega))
    go_wp2_with fail
    refine HK.out.mono ?_
    rintro E w3 ⟨q, hq, rfl, ks, ko⟩
    have hq8 : q < 8 := by omega
    obtain ⟨tx, htx, hsz⟩ := HCS.out (9 + q) (by omega)
    have kz3 := Nat.le_of_eq ko.size.symm
    have hwr : IntKind.i64.wrap (9 + (q : Int)) = 9 + (q : Int) := IntWalk.i64_in _ (by omega)
    have hnn : (0 : Int) ≤ 9 + (q : Int) := by omega
    have hlt : (9 : Int) + (q : Int) < 25 := by omega
    have htn : ((9 : Int) + (q : Int)).toNat = 9 + q := by omega
    have hcell : w3.cell? ⟨w0.heap.size, 9 + q, none⟩ = some (.string tx) := (cell_of_block ((ko.block w0.heap.size (by omega)).trans HT2.out) (9 + q)).trans htx
    have S3 := Lib.hid ks
    have N3 := Lib.hid (N2.out.trans (But.of_one ko))
    have X3 := Lib.hid ((ko.block w.heap.size (by omega)).trans X2.out)
    clear ks ko HK HCS htx hq HT2
    go_wp2_with fail
    refine (parseProgram_any tx hsz w3).mono ?_
    rintro E w4 ⟨ts, s, At, As, ct, cb, b, rfl, hr, ht6, hs6, hb3⟩
    have hz4 := hb3.size
    obtain ⟨n, hn⟩ : ∃ n, ts.length = n := ⟨_, rfl⟩
    obtain ⟨m, hm⟩ : ∃ m, s.len = m := ⟨_, rfl⟩
    rw [hn, hm]
    have HN := Lib.hid hn
    have HM := Lib.hid hm
    have HT6 := Lib.hid ht6
    have HS3 := Lib.hid hs6
    have hba := (Below.refl w4.heap.size w4).alloc (Nat.le_refl _) (.cells #[.slice At n ct, .slice As m cb] 26)
    have h4z : w4.heap.size + 1 ≤ (w4.alloc (.cells #[.slice At n ct, .slice As m cb] 26)).heap.size := Nat.le_of_eq (by simp)
    have h4n := heap_alloc_new w4 (.cells #[.slice At n ct, .slice As m cb] 26)
    obtain ⟨w5, hw5⟩ : ∃ w5, w4.alloc (.cells #[.slice At n ct, .slice As m cb] 26) = w5 := ⟨_, rfl⟩
    have HR4 := Lib.hid ((hr.below hba).mono (show w.heap.size + 1 ≤ w3.heap.size by omega))
    have S4 := Lib.hid ((S3.out.below hb3).below hba)
    have N4 := Lib.hid ((N3.out.trans (But.of_below hb3 (Nat.le_refl _))).trans (But.of_below hba (Nat.le_refl _)))
    have X4 := Lib.hid ((hba.block w.heap.size (by omega)).trans ((hb3.block w.heap.size (by omega)).trans X3.out))
    rw [hw5] at HR4 S4 N4 X4 h4n h4z
    have x0 : w5.cell? ⟨w4.heap.size, 0, none⟩ = some (.slice At n ct) := (cell_of_block h4n 0).trans rfl
    have x1 : w5.cell? ⟨w4.heap.size, 1, none⟩ = some (.slice As m cb) := (cell_of_block h4n 1).trans rfl
    clear hn hm hba hr hb3 h4n hs6 ht6 hcell hsz hwr hnn hlt htn
    go_upto_region 4 with (fail)
    clear hw5
    have HMU := l1Mutate_any R (P + 1 + 1) ts s At As ct cb w5 S4.out (by omega) (by have := HT6.out; omega) (by have := HS3.out; omega) (HR4.out.1.mono (Nat.zero_le _) (Nat.le_refl _)) (HR4.out.2.mono (Nat.zero_le _) (Nat.le_refl _))
    rw [HN.out, HM.out] at HMU
    replace HMU := Lib.hid HMU
    go_wp2_with fail
    refine HMU.out.mono ?_
    rintro E w9 ⟨ts2, s2, A5, A6, c5, c6, rfl, hr9, ht5, hs6, hs9, hb9⟩
    obtain ⟨n5, hn5⟩ : ∃ n, ts2.length = n := ⟨_, rfl⟩
    obtain ⟨m6, hm6⟩ : ∃ m, s2.len = m := ⟨_, rfl⟩
    rw [hn5] at ht5
    rw [hn5, hm6]
    have HN5 := Lib.hid hn5
    have HM6 := Lib.hid hm6
    have HR9 := Lib.hid hr9
    have S9 := Lib.hid hs9
    have N9 := Lib.hid (N4.out.trans hb9)
    have hX9 := (hb9.block w.heap.size (by omega) (by omega)).trans X4.out
    have HS6 := Lib.hid hs6
    clear hn5 hm6 hr9 hs9 hb9 hs6 HMU
    have z0 : w9.cell? ⟨w.heap.size, 0, none⟩ = some (.slice none 0 0) := (cell_of_block hX9 0).trans rfl
    have z1 : w9.cell? ⟨w.heap.size, 1, none⟩ = some (.slice none 0 0) := (cell_of_block hX9 1).trans rfl
    have y0 := frozen_of_block hX9 0
    have y1 := frozen_of_block hX9 1
    go_wp2_with fail
    refine bodyPost_ret (v := .agg #[.slice A5 n5 c5, .slice A6 m6 c6]) (by simp [results, Tryz.results37, go_sem, z0, z1]) rfl ⟨ts2, s2, A5, A6, c5, c6, by rw [HN5.out, HM6.out], ((HR9.out.setLow (by omega)).setLow (by omega)).mono (by omega), by rw [HN5.out]; exact ht5, HS6.out, ?_, ?_⟩
    · repeat (refine SrcV.setB ?_ (by omega) _ _)
      exact S9.out.more (by omega)
    · repeat (refine But.setCell ?_ (Nat.le_refl _) _)
      exact N9.out
  · have hv1 : v = 1 := by omega
    subst hv1
    clear hv hv0 HCS HT2
    go_wp2_with fail
    refine (l1Draw_any R (P + 1) w2 S2.out (by omega)).mono ?_
    rintro E w5 ⟨ts, s, At, As, ct, cb, rfl, hr, ht6, hs6, hs5, hb5⟩
    have hz5 := hb5.size
    obtain ⟨n, hn⟩ : ∃ n, ts.length = n := ⟨_, rfl⟩
    obtain ⟨m, hm⟩ : ∃ m, s.len = m := ⟨_, rfl⟩
    rw [hn, hm]
    have HN := Lib.hid hn
    have HM := Lib.hid hm
    have HT6 := Lib.hid ht6
    have HS3 := Lib.hid hs6
    have HR4 := Lib.hid (hr.mono (show w.heap.size + 1 ≤ w2.heap.size by omega))
    have S4 := Lib.hid hs5
    have N4 := Lib.hid (N2.out.trans hb5)
    have X4 := Lib.hid ((hb5.block w.heap.size (by omega) (by omega)).trans X2.out)
    clear hn hm hr hb5 hs6 ht6 hs5
    have HMU := l1Mutate_any R (P + 1 + 2000) ts s At As ct cb w5 S4.out (by omega) (by have := HT6.out; omega) (by have := HS3.out; omega) (HR4.out.1.mono (Nat.zero_le _) (Nat.le_refl _)) (HR4.out.2.mono (Nat.zero_le _) (Nat.le_refl _))
    rw [HN.out, HM.out] at HMU
    replace HMU := Lib.hid HMU
    go_wp2_with fail
    refine HMU.out.mono ?_
    rintro E w9 ⟨ts2, s2, A5, A6, c5, c6, rfl, hr9, ht5, hs6, hs9, hb9⟩
    obtain ⟨n5, hn5⟩ : ∃ n, ts2.length = n := ⟨_, rfl⟩
    obtain ⟨m6, hm6⟩ : ∃ m, s2.len = m := ⟨_, rfl⟩
    rw [hn5] at ht5
    rw [hn5, hm6]
    have HN5 := Lib.hid hn5
    have HM6 := Lib.hid hm6
    have HR9 := Lib.hid hr9
    have S9 := Lib.hid hs9
    have N9 := Lib.hid (N4.out.trans hb9)
    have hX9 := (hb9.block w.heap.size (by omega) (by omega)).trans X4.out
    have HS6 := Lib.hid hs6
    clear hn5 hm6 hr9 hs9 hb9 hs6 HMU
    have z0 : w9.cell? ⟨w.heap.size, 0, none⟩ = some (.slice none 0 0) := (cell_of_block hX9 0).trans rfl
    have z1 : w9.cell? ⟨w.heap.size, 1, none⟩ = some (.slice none 0 0) := (cell_of_block hX9 1).trans rfl
    have y0 := frozen_of_block hX9 0
    have y1 := frozen_of_block hX9 1
    go_wp2_with fail
    refine bodyPost_ret (v := .agg #[.slice A5 n5 c5, .slice A6 m6 c6]) (by simp [results, Tryz.results37, go_sem, z0, z1]) rfl ⟨ts2, s2, A5, A6, c5, c6, by rw [HN5.out, HM6.out], ((HR9.out.setLow (by omega)).setLow (by omega)).mono (by omega), by rw [HN5.out]; exact ht5, HS6.out, ?_, ?_⟩
    · repeat (refine SrcV.setB ?_ (by omega) _ _)
      exact S9.out.more (by omega)
    · repeat (refine But.setCell ?_ (Nat.le_refl _) _)
      exact N9.out

end Go.Proofs.YtlddoookojjleaaGreatDoor
