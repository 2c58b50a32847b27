/-
  The model's draw of the arguments of UseOf.
-/
import Derived.Test.YtbffldgiccijlaaZDwL
namespace Go.Proofs.Ytbffldgiccijlaa
open Go.RowKit Go.Deep
set_option linter.unusedVariables false

/-- What the draw of a program, a point and a variable leaves. -/
def UseD (w : World) (E : Ending) (w' : World) : Prop := ∃ (ts : List Int) (s : Sts) (At As : Option Addr) (ct cs : Nat) (a q : Int), E = .returned (.tuple #[.agg #[.slice At ts.length ct, .slice As s.len cs], .int .i64 a, .int .i64 q]) ∧
  ReadsP w' w.heap.size ts s At As ct cs ∧ ts.length ≤ 1000 ∧ s.size ≤ 40000 ∧ ((-1 ≤ a ∧ a ≤ 60) ∧ (-1 ≤ q ∧ q ≤ 60)) ∧ Below w.heap.size w w'

set_option maxRecDepth 100000 in
set_option maxHeartbeats 2000000 in
theorem drawUseOf_any (nb cb : Nat) (Ab : Option Addr) (w : World) (hB : ByteV w w.heap.size nb Ab cb) : Calls Try.prog 4 #[.slice Ab nb cb] w (UseD w) := by
  obtain ⟨w0, hw0⟩ : ∃ w0, w.alloc (.cells #[.slice none 0 0, .slice none 0 0] 26) = w0 := ⟨_, rfl⟩
  have hb0 := (Below.refl w.heap.size w).alloc (Nat.le_refl _) (.cells #[.slice none 0 0, .slice none 0 0] 26)
  have X0 := Lib.hid (heap_alloc_new w (.cells #[.slice none 0 0, .slice none 0 0] 26))
  have hz0 : w.heap.size + 1 ≤ (w.alloc (.cells #[.slice none 0 0, .slice none 0 0] 26)).heap.size := Nat.le_of_eq (by simp)
  have HO := Lib.hid (l17Open_any nb cb Ab (w.alloc (.cells #[.slice none 0 0, .slice none 0 0] 26)) (hB.below hb0 (by simp)))
  rw [hw0] at X0 hz0 HO
  have HB0 : Hid (Below w.heap.size w w0) := by rw [← hw0]; exact hb0
  clear hb0 hB
  go_enter Try.func4, Try.ntmps4
  go_upto_region 1 with (fail)
  clear hw0
  go_wp2_with fail
  refine HO.out.mono ?_
  rintro E w1 ⟨rfl, hs1, hb1⟩
  have hz1 := hb1.size
  have hsl := hs1.lt
  obtain ⟨R, hR⟩ : ∃ R, w0.heap.size = R := ⟨_, rfl⟩
  have S1 := Lib.hid hs1
  have X1 := Lib.hid ((hb1.block w.heap.size (by omega)).trans X0.out)
  have N1 := Lib.hid (HB0.out.trans (hb1.mono (by omega)))
  rw [hR] at S1 hz0 hz1 hsl
  rw [hR]
  clear hs1 hb1 HO hR
  have HDR := Lib.hid (l1Draw_any R 0 w1 S1.out (by omega))
  go_wp2_with fail
  refine HDR.out.mono ?_
  rintro E w2 ⟨ts0, s0, At0, As0, ct0, cs0, rfl, hr2, ht0, hs0, hs2, hb2⟩
  have hz2 := hb2.size
  have X2 := Lib.hid ((hb2.block w.heap.size (by omega) (by omega)).trans X1.out)
  have N2 := Lib.hid (N1.out.trans ((hb2.below (by omega)).mono (by omega)))
  have HMU := Lib.hid (l1Mutate_any R _ ts0 s0 At0 As0 ct0 cs0 w2 hs2 (by omega) (by omega) (by omega) (hr2.1.mono (Nat.zero_le _) (Nat.le_refl _)) (hr2.2.mono (Nat.zero_le _) (Nat.le_refl _)))
  obtain ⟨n0, hn0⟩ : ∃ n, ts0.length = n := ⟨_, rfl⟩
  obtain ⟨m0, hm0⟩ : ∃ m, s0.len = m := ⟨_, rfl⟩
  rw [hn0, hm0] at HMU
  rw [hn0, hm0]
  clear hn0 hm0 hr2 ht0 hs0 hs2 hb2 HDR
  go_wp2_with fail
  refine HMU.out.mono ?_
  rintro E w3 ⟨ts, s, At, As, ct, cs, rfl, hr3, ht, hs, hs3, hb3⟩
  have hz3 := hb3.size
  obtain ⟨n, hn⟩ : ∃ n, ts.length = n := ⟨_, rfl⟩
  obtain ⟨m, hm⟩ : ∃ m, s.len = m := ⟨_, rfl⟩
  have HN := Lib.hid hn
  have HM := Lib.hid hm
  rw [hn, hm]
  have hba := (Below.refl w3.heap.size w3).alloc (Nat.le_refl _) (.cells #[.slice At n ct, .slice As m cs] 26)
  have h4n := heap_alloc_new w3 (.cells #[.slice At n ct, .slice As m cs] 26)
  have h4z : w3.heap.size + 1 ≤ (w3.alloc (.cells #[.slice At n ct, .slice As m cs] 26)).heap.size := Nat.le_of_eq (by simp)
  obtain ⟨w4, hw4⟩ : ∃ w4, w3.alloc (.cells #[.slice At n ct, .slice As m cs] 26) = w4 := ⟨_, rfl⟩
  have HR4 := Lib.hid (hr3.below hba)
  have S4 := Lib.hid (hs3.below hba)
  have N4 := Lib.hid ((N2.out.trans ((hb3.below (by omega)).mono (by omega))).trans (hba.mono (by omega)))
  have X4 := Lib.hid ((hba.block w.heap.size (by omega)).trans ((hb3.block w.heap.size (by omega) (by omega)).trans X2.out))
  rw [hw4] at HR4 S4 N4 X4 h4n h4z
  have Y4 := Lib.hid h4n
  have HT := Lib.hid ht
  have HS := Lib.hid hs
  clear hn hm hba h4n hr3 ht hs hs3 hb3 HMU
  have hbk := (Below.refl w4.heap.size w4).alloc (Nat.le_refl _) (.cells #[.int .i64 1, .int .i64 0, .int .i64 2, .int .i64 3, .int .i64 4, .int .i64 5, .int .i64 (-1), .int .i64 60] 3)
  have HNM := Lib.hid (num_any R _ w4.heap.size [1, 0, 2, 3, 4, 5, -1, 60] (w4.alloc (.cells #[.int .i64 1, .int .i64 0, .int .i64 2, .int .i64 3, .int .i64 4, .int .i64 5, .int .i64 (-1), .int .i64 60] 3)) (heap_alloc_new w4 _) (by omega) (by decide) (by decide) (S4.out.below hbk) (by omega))
  have HBK := Lib.hid hbk
  clear hbk
  go_upto_region 3 with (fail)
  clear hw4
  go_wp2_with fail
  refine HNM.out.mono ?_
  rintro E w5 ⟨a, ha, rfl, ks5, ko5⟩
  have k5 : w4.heap.size ≤ w5.heap.size := by rw [ko5.size]; exact HBK.out.size
  have HR5 := Lib.hid ((HR4.out.below HBK.out).but (But.of_one ko5) (by omega))
  have S5 := Lib.hid ks5
  have N5 := Lib.hid ((N4.out.trans (HBK.out.mono (by omega))).trans (ko5.below (by omega)))
  have Y5 := Lib.hid ((ko5.block w3.heap.size (by omega)).trans ((HBK.out.block w3.heap.size (by omega)).trans Y4.out))
  have X5 := Lib.hid ((ko5.block w.heap.size (by omega)).trans ((HBK.out.block w.heap.size (by omega)).trans X4.out))
  have HQA : Hid (-1 ≤ a ∧ a ≤ 60) := by
    simp only [List.mem_cons, List.not_mem_nil, or_false] at ha
    unfold Hid
    omega
  clear ha ks5 ko5 HNM
  have hK0 : PrK w.heap.size w3.heap.size (.slice At n ct) (.slice As m cs) w5 := prK_mk Y5.out X5.out
  have hK1 : PrK w.heap.size w3.heap.size (.slice At n ct) (.slice As m cs) w5.drew := hK0
  have hbl := ((Below.refl w5.heap.size w5).alloc (Nat.le_refl _) (.cells #[.int .i64 1, .int .i64 2, .int .i64 0, .int .i64 3, .int .i64 (-1), .int .i64 9] 3)).drew
  have hK2 : PrK w.heap.size w3.heap.size (.slice At n ct) (.slice As m cs) (w5.alloc (.cells #[.int .i64 1, .int .i64 2, .int .i64 0, .int .i64 3, .int .i64 (-1), .int .i64 9] 3)).drew := prK_mk ((hbl.block w3.heap.size (by omega)).trans Y5.out) ((hbl.block w.heap.size (by omega)).trans X5.out)
  have Y6 := Lib.hid ((hbl.block w3.heap.size (by omega)).trans Y5.out)
  have X6 := Lib.hid ((hbl.block w.heap.size (by omega)).trans X5.out)
  have HNM := Lib.hid (num_any R _ w5.heap.size [1, 2, 0, 3, -1, 9] (w5.alloc (.cells #[.int .i64 1, .int .i64 2, .int .i64 0, .int .i64 3, .int .i64 (-1), .int .i64 9] 3)).drew (heap_alloc_new w5 _) (by omega) (by decide) (by decide) (S5.out.below hbl) (by omega))
  have HBL := Lib.hid hbl
  have hne : w.heap.size ≠ w3.heap.size := by omega
  clear hbl
  go_upto_region 4 with (fail)
  go_region_held3 (PrK w.heap.size w3.heap.size (.slice At n ct) (.slice As m cs))
    (first | with_reducible exact hK0 | with_reducible exact hK1 | with_reducible exact hK2 | with_reducible exact hK3 | with_reducible exact prK_put hK3 hne)
    ((go_at_call 10; refine HNM.out.mono ?_; rintro E w7 ⟨q, hq, rfl, ks7, ko7⟩; have hY7 := (ko7.block w3.heap.size (by omega)).trans Y6.out; have hX7 := (ko7.block w.heap.size (by omega)).trans X6.out; have hK3 : PrK w.heap.size w3.heap.size (.slice At n ct) (.slice As m cs) w7 := prK_mk hY7 hX7))
  have k7 : w5.heap.size ≤ w7.heap.size := by rw [ko7.size]; exact HBL.out.size
  have HRF := Lib.hid (((((HR5.out.below HBL.out).but (But.of_one ko7) (by omega)).setLow (o := 0) (x := .slice At n ct) (show w.heap.size < w2.heap.size by omega)).setLow (o := 1) (x := .slice As m cs) (show w.heap.size < w2.heap.size by omega)).mono (show w.heap.size ≤ w2.heap.size by omega))
  have HBF := Lib.hid ((((N5.out.trans (HBL.out.mono (by omega))).trans (ko7.below (by omega))).setCell (p := ⟨w.heap.size, 0, none⟩) (Nat.le_refl _) (.slice At n ct)).setCell (p := ⟨w.heap.size, 1, none⟩) (Nat.le_refl _) (.slice As m cs))
  have HQ : Hid (-1 ≤ q ∧ q ≤ 60) := by
    simp only [List.mem_cons, List.not_mem_nil, or_false] at hq
    unfold Hid
    omega
  clear hq
  have z0 : w7.cell? ⟨w.heap.size, 0, none⟩ = some (.slice none 0 0) := (cell_of_block hX7 0).trans rfl
  have z1 : w7.cell? ⟨w.heap.size, 1, none⟩ = some (.slice none 0 0) := (cell_of_block hX7 1).trans rfl
  clear hK0 hK1 hK2 hK3 HNM ks7 ko7 hY7 hX7
  go_wp2_with fail
  exact bodyPost_ret (v := .tuple #[.agg #[.slice At n ct, .slice As m cs], .int .i64 a, .int .i64 q]) (by simp [results, Try.results4, go_sem, z0, z1]) rfl ⟨ts, s, At, As, ct, cs, a, q, by rw [HN.out, HM.out], HRF.out, HT.out, HS.out, ⟨HQA.out, HQ.out⟩, HBF.out⟩

end Go.Proofs.Ytbffldgiccijlaa
