/-
  The model's draw of the arguments of RunPath.
-/
import Derived.Test.YtlddoookojjleaaZDrB
namespace Go.Proofs.Ytlddoookojjleaa
open Go.RowKit Go.Deep
set_option linter.unusedVariables false

/-- What holds while two cells are read at one place and stored at another. -/
abbrev PrK (n m : Nat) (u0 u1 : Value) (w : World) : Prop := w.cell? ⟨m, 0, none⟩ = some u0 ∧ w.cell? ⟨m, 1, none⟩ = some u1 ∧ w.cell? ⟨n, 0, none⟩ = some (heldC w ⟨n, 0, none⟩) ∧ w.cell? ⟨n, 1, none⟩ = some (heldC w ⟨n, 1, none⟩) ∧ w.frozen? ⟨n, 0, none⟩ = false ∧ w.frozen? ⟨n, 1, none⟩ = false

theorem prK_mk {n m : Nat} {u0 u1 : Value} {w : World} {t : TypeId} (h : w.heap[m]? = some (.cells #[u0, u1] t (0, 0))) (hn : w.heap[n]? = some (.cells #[.slice none 0 0, .slice none 0 0] t (0, 0))) : PrK n m u0 u1 w := by
  have z0 := (cell_of_block hn 0).trans (show _ = some (.slice none 0 0) from rfl)
  have z1 := (cell_of_block hn 1).trans (show _ = some (.slice none 0 0) from rfl)
  exact ⟨(cell_of_block h 0).trans rfl, (cell_of_block h 1).trans rfl, by unfold heldC; rw [z0]; rfl, by unfold heldC; rw [z1]; rfl, frozen_of_block hn 0, frozen_of_block hn 1⟩

theorem prK_put {n m : Nat} {u0 u1 x y : Value} {w : World} (h : PrK n m u0 u1 w) (hne : n ≠ m) : PrK n m u0 u1 ((w.setCell ⟨n, 0, none⟩ x).setCell ⟨n, 1, none⟩ y) := by
  obtain ⟨h1, h2, h3, h4, h5, h6⟩ := h
  have n1 : ∀ (o o' : Nat), (⟨n, o, none⟩ : Addr) ≠ ⟨m, o', none⟩ := fun o o' e => by injection e with e; exact hne e
  have c0 : ((w.setCell ⟨n, 0, none⟩ x).setCell ⟨n, 1, none⟩ y).cell? ⟨n, 0, none⟩ = some x := (World.cell?_setCell_other _ _ _ _ (by simp)).trans (World.cell?_setCell_same _ _ _ h3)
  have c1 : ((w.setCell ⟨n, 0, none⟩ x).setCell ⟨n, 1, none⟩ y).cell? ⟨n, 1, none⟩ = some y := World.cell?_setCell_same _ _ _ ((World.cell?_setCell_other _ _ _ _ (by simp)).trans h4)
  refine ⟨((World.cell?_setCell_other _ _ _ _ (n1 1 0)).trans (World.cell?_setCell_other _ _ _ _ (n1 0 0))).trans h1, ((World.cell?_setCell_other _ _ _ _ (n1 1 1)).trans (World.cell?_setCell_other _ _ _ _ (n1 0 1))).trans h2, ?_, ?_, ?_, ?_⟩
  · rw [c0]; unfold heldC; rw [c0]; rfl
  · rw [c1]; unfold heldC; rw [c1]; rfl
  · rw [World.frozen?_setCell, World.frozen?_setCell]; exact h5
  · rw [World.frozen?_setCell, World.frozen?_setCell]; exact h6

/-- What the draw leaves: a program, choices and a number. -/
def RunD (w : World) (E : Ending) (w' : World) : Prop := ∃ (ts : List Int) (s : Sts) (At As : Option Addr) (ct cs : Nat) (xs : List Int) (A : Option Addr) (c : Nat) (q : Int), E = .returned (.tuple #[.agg #[.slice At ts.length ct, .slice As s.len cs], .slice A xs.length c, .int .i64 q]) ∧
  ReadsP w' w.heap.size ts s At As ct cs ∧ ts.length ≤ 1000 ∧ s.size ≤ 40000 ∧ IntsV w' 0 w'.heap.size xs A c ∧ xs.length ≤ 8 ∧ Below w.heap.size w w'

set_option maxRecDepth 100000 in
set_option maxHeartbeats 2000000 in
theorem drawRunPath_any (nb cb : Nat) (Ab : Option Addr) (w : World) (hB : ByteV w w.heap.size nb Ab cb) : Calls Try.prog 24 #[.slice Ab nb cb] w (RunD w) := by
  obtain ⟨w0, hw0⟩ : ∃ w0, w.alloc (.cells #[.slice none 0 0, .slice none 0 0] 31) = w0 := ⟨_, rfl⟩
  have hb0 := (Below.refl w.heap.size w).alloc (Nat.le_refl _) (.cells #[.slice none 0 0, .slice none 0 0] 31)
  have X0 := Lib.hid (heap_alloc_new w (.cells #[.slice none 0 0, .slice none 0 0] 31))
  have hz0 : w.heap.size + 1 ≤ (w.alloc (.cells #[.slice none 0 0, .slice none 0 0] 31)).heap.size := Nat.le_of_eq (by simp)
  have HO := Lib.hid (l17Open_any nb cb Ab (w.alloc (.cells #[.slice none 0 0, .slice none 0 0] 31)) (hB.below hb0 (by simp)))
  rw [hw0] at X0 hz0 HO
  have HB0 : Hid (Below w.heap.size w w0) := by rw [← hw0]; exact hb0
  clear hb0 hB
  go_enter Try.func24, Try.ntmps24
  go_upto_region 1 with (fail)
  clear hw0
  go_wp2_with fail
  refine HO.out.mono ?_
  rintro E w1 ⟨rfl, hs1, hb1⟩
  have hz1 := hb1.size
  have hsl := hs1.lt
  obtain ⟨R, hR⟩ : ∃ R, w0.heap.size = R := ⟨_, rfl⟩
  have S1 := Lib.hid hs1
  have X1 := Lib.hid ((hb1.block w.heap.size (by omega)).trans X0.out)
  have N1 := Lib.hid (HB0.out.trans (hb1.mono (by omega)))
  rw [hR] at S1 hz0 hz1 hsl
  rw [hR]
  clear hs1 hb1 HO hR
  have HBR := Lib.hid (l2Branch_any R 0 w1 S1.out (by omega))
  go_wp2_with fail
  refine HBR.out.mono ?_
  rintro E w2 ⟨ts, s, At, As, ct, cs, rfl, hr2, ht, hs, hs2, hb2⟩
  have hz2 := hb2.size
  obtain ⟨n, hn⟩ : ∃ n, ts.length = n := ⟨_, rfl⟩
  obtain ⟨m, hm⟩ : ∃ m, s.len = m := ⟨_, rfl⟩
  have HN := Lib.hid hn
  have HM := Lib.hid hm
  rw [hn, hm]
  have hba := (Below.refl w2.heap.size w2).alloc (Nat.le_refl _) (.cells #[.slice At n ct, .slice As m cs] 31)
  have h3n := heap_alloc_new w2 (.cells #[.slice At n ct, .slice As m cs] 31)
  have h3z : w2.heap.size + 1 ≤ (w2.alloc (.cells #[.slice At n ct, .slice As m cs] 31)).heap.size := Nat.le_of_eq (by simp)
  obtain ⟨w3, hw3⟩ : ∃ w3, w2.alloc (.cells #[.slice At n ct, .slice As m cs] 31) = w3 := ⟨_, rfl⟩
  have HR3 := Lib.hid (hr2.below hba)
  have S3 := Lib.hid (hs2.below hba)
  have N3 := Lib.hid ((N1.out.trans ((hb2.below (by omega)).mono (by omega))).trans (hba.mono (by omega)))
  have X3 := Lib.hid ((hba.block w.heap.size (by omega)).trans ((hb2.block w.heap.size (by omega) (by omega)).trans X1.out))
  rw [hw3] at HR3 S3 N3 X3 h3n h3z
  have Y3 := Lib.hid h3n
  have HT := Lib.hid ht
  have HS := Lib.hid hs
  clear hn hm hba h3n hr2 ht hs hs2 hb2 HBR
  have HCH := Lib.hid (l2Choices_any R _ w3 S3.out (by omega))
  go_upto_region 3 with (fail)
  clear hw3
  go_wp2_with fail
  refine HCH.out.mono ?_
  rintro E w4 ⟨xs, A, c, rfl, hI, hx8, hs4, hb4⟩
  have hz4 := hb4.size
  have X4 := (hb4.block w.heap.size (by omega) (by omega)).trans X3.out
  have Y4 := (hb4.block w2.heap.size (by omega) (by omega)).trans Y3.out
  have HR4 := Lib.hid (HR3.out.but hb4 (by omega))
  have HI4 := Lib.hid hI
  have S4 := Lib.hid hs4
  have HX8 := Lib.hid hx8
  have N4 := Lib.hid (N3.out.trans ((hb4.below (by omega)).mono (by omega)))
  obtain ⟨xl, hxl⟩ : ∃ q, xs.length = q := ⟨_, rfl⟩
  have HXL := Lib.hid hxl
  rw [hxl] at HI4
  rw [hxl]
  have hK0 : PrK w.heap.size w2.heap.size (.slice At n ct) (.slice As m cs) w4 := prK_mk Y4 X4
  have hK1 : PrK w.heap.size w2.heap.size (.slice At n ct) (.slice As m cs) w4.drew := hK0
  have hbl := ((Below.refl w4.heap.size w4).alloc (Nat.le_refl _) (.cells #[.int .i64 100, .int .i64 50, .int .i64 5, .int .i64 0, .int .i64 1001, .int .i64 (-1)] 3)).drew
  have hK2 : PrK w.heap.size w2.heap.size (.slice At n ct) (.slice As m cs) (w4.alloc (.cells #[.int .i64 100, .int .i64 50, .int .i64 5, .int .i64 0, .int .i64 1001, .int .i64 (-1)] 3)).drew := prK_mk ((hbl.block w2.heap.size (by omega)).trans Y4) ((hbl.block w.heap.size (by omega)).trans X4)
  have Y5 := Lib.hid ((hbl.block w2.heap.size (by omega)).trans Y4)
  have X5 := Lib.hid ((hbl.block w.heap.size (by omega)).trans X4)
  have HNM := Lib.hid (num_any R _ w4.heap.size [100, 50, 5, 0, 1001, -1] (w4.alloc (.cells #[.int .i64 100, .int .i64 50, .int .i64 5, .int .i64 0, .int .i64 1001, .int .i64 (-1)] 3)).drew (heap_alloc_new w4 _) (by omega) (by decide) (by decide) (S4.out.below hbl) (by omega))
  have HBL := Lib.hid hbl
  have hne : w.heap.size ≠ w2.heap.size := by omega
  clear X4 Y4 hI hs4 hb4 hx8 hxl hbl HCH
  go_upto_region 4 with (fail)
  go_region_held3 (PrK w.heap.size w2.heap.size (.slice At n ct) (.slice As m cs))
    (first | with_reducible exact hK0 | with_reducible exact hK1 | with_reducible exact hK2 | with_reducible exact hK3 | with_reducible exact prK_put hK3 hne)
    ((go_at_call 44; refine HNM.out.mono ?_; rintro E w7 ⟨q, hq, rfl, ks7, ko7⟩; have hY7 := (ko7.block w2.heap.size (by omega)).trans Y5.out; have hX7 := (ko7.block w.heap.size (by omega)).trans X5.out; have hK3 : PrK w.heap.size w2.heap.size (.slice At n ct) (.slice As m cs) w7 := prK_mk hY7 hX7))
  have k7 : w4.heap.size ≤ w7.heap.size := by rw [ko7.size]; exact HBL.out.size
  have HRF := Lib.hid (((((HR4.out.below HBL.out).but (But.of_one ko7) (by omega)).setLow (o := 0) (x := .slice At n ct) (show w.heap.size < w1.heap.size by omega)).setLow (o := 1) (x := .slice As m cs) (show w.heap.size < w1.heap.size by omega)).mono (show w.heap.size ≤ w1.heap.size by omega))
  have HIF : Hid (IntsV ((w7.setCell ⟨w.heap.size, 0, none⟩ (.slice At n ct)).setCell ⟨w.heap.size, 1, none⟩ (.slice As m cs)) 0 ((w7.setCell ⟨w.heap.size, 0, none⟩ (.slice At n ct)).setCell ⟨w.heap.size, 1, none⟩ (.slice As m cs)).heap.size xs A c) :=
    HI4.out.intsB.keep (Nat.zero_le _) (by simp [World.setCell]; exact k7) fun p h1 h2 => by
      rw [World.cell?_setCell_other _ _ _ _ (fun e => by subst e; simp at h1; omega), World.cell?_setCell_other _ _ _ _ (fun e => by subst e; simp at h1; omega)]
      exact World.cell?_of_block ((ko7.block p.block (by omega)).trans (HBL.out.block p.block h2))
  have HBF := Lib.hid ((((N4.out.trans (HBL.out.mono (by omega))).trans (ko7.below (by omega))).setCell (p := ⟨w.heap.size, 0, none⟩) (Nat.le_refl _) (.slice At n ct)).setCell (p := ⟨w.heap.size, 1, none⟩) (Nat.le_refl _) (.slice As m cs))
  have z0 : w7.cell? ⟨w.heap.size, 0, none⟩ = some (.slice none 0 0) := (cell_of_block hX7 0).trans rfl
  have z1 : w7.cell? ⟨w.heap.size, 1, none⟩ = some (.slice none 0 0) := (cell_of_block hX7 1).trans rfl
  clear hK0 hK1 hK2 hK3 HNM ks7 ko7 hY7 hX7 hq
  go_wp2_with fail
  exact bodyPost_ret (v := .tuple #[.agg #[.slice At n ct, .slice As m cs], .slice A xl c, .int .i64 q]) (by simp [results, Try.results24, go_sem, z0, z1]) rfl ⟨ts, s, At, As, ct, cs, xs, A, c, q, by rw [HN.out, HM.out, HXL.out], HRF.out, HT.out, HS.out, HIF.out, HX8.out, HBF.out⟩

end Go.Proofs.Ytlddoookojjleaa
