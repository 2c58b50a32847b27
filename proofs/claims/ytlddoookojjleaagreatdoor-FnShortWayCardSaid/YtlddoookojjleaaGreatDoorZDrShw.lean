/-
  The model's draw of the arguments of ShortWay.
-/
import Derived.Test.YtlddoookojjleaaGreatDoorZDrCase
namespace Go.Proofs.YtlddoookojjleaaGreatDoor
open Go.RowKit Go.Deep
set_option linter.unusedVariables false

set_option maxRecDepth 100000 in
theorem drawShortWay_any (nb cb : Nat) (Ab : Option Addr) (w : World) (hB : ByteV w w.heap.size nb Ab cb) : Calls Tryz.prog 4 #[.slice Ab nb cb] w (CaseD w) := by
  obtain ⟨w0, hw0⟩ : ∃ w0, w.alloc (.cells #[.slice none 0 0, .slice none 0 0] 26) = w0 := ⟨_, rfl⟩
  have hb0 := (Below.refl w.heap.size w).alloc (Nat.le_refl _) (.cells #[.slice none 0 0, .slice none 0 0] 26)
  have X0 := Lib.hid (heap_alloc_new w (.cells #[.slice none 0 0, .slice none 0 0] 26))
  have hz0 : w.heap.size + 1 ≤ (w.alloc (.cells #[.slice none 0 0, .slice none 0 0] 26)).heap.size := Nat.le_of_eq (by simp)
  have HP := Lib.hid (l12Case_any nb cb Ab (w.alloc (.cells #[.slice none 0 0, .slice none 0 0] 26)) (hB.below hb0 (by simp)))
  rw [hw0] at X0 hz0 HP
  have HB0 : Hid (Below w.heap.size w w0) := by rw [← hw0]; exact hb0
  clear hb0 hB
  go_enter Tryz.func4, Tryz.ntmps4
  go_upto_region 1 with (fail)
  clear hw0
  go_wp2_with fail
  refine HP.out.mono ?_
  rintro E w1 ⟨ts, s, At, As, ct, cs, a, q, rfl, hr, ht, hs, hq, hb⟩
  have hz1 := hb.size
  obtain ⟨n, hn⟩ : ∃ n, ts.length = n := ⟨_, rfl⟩
  obtain ⟨m, hm⟩ : ∃ m, s.len = m := ⟨_, rfl⟩
  have HN := Lib.hid hn
  have HM := Lib.hid hm
  rw [hn, hm]
  have hX := (hb.block w.heap.size (by omega)).trans X0.out
  have z0 : w1.cell? ⟨w.heap.size, 0, none⟩ = some (.slice none 0 0) := (cell_of_block hX 0).trans rfl
  have z1 : w1.cell? ⟨w.heap.size, 1, none⟩ = some (.slice none 0 0) := (cell_of_block hX 1).trans rfl
  have y0 := frozen_of_block hX 0
  have y1 := frozen_of_block hX 1
  have HR := Lib.hid ((((hr.setLow (o := 0) (x := .slice At n ct) (show w.heap.size < w0.heap.size by omega)).setLow (o := 1) (x := .slice As m cs) (show w.heap.size < w0.heap.size by omega))).mono (show w.heap.size ≤ w0.heap.size by omega))
  have HT := Lib.hid ht
  have HS := Lib.hid hs
  have HQ := Lib.hid hq
  have HBF := Lib.hid (((HB0.out.trans (hb.mono (by omega))).setCell (p := ⟨w.heap.size, 0, none⟩) (Nat.le_refl _) (.slice At n ct)).setCell (p := ⟨w.heap.size, 1, none⟩) (Nat.le_refl _) (.slice As m cs))
  clear hn hm hX hr ht hs hq hb HP
  go_wp2_with fail
  exact bodyPost_ret (v := .tuple #[.agg #[.slice At n ct, .slice As m cs], .int .i64 a, .int .i64 q]) (by simp [results, Tryz.results4, go_sem, z0, z1]) rfl ⟨ts, s, At, As, ct, cs, a, q, by rw [HN.out, HM.out], HR.out, HT.out, HS.out, HQ.out, HBF.out⟩

end Go.Proofs.YtlddoookojjleaaGreatDoor
