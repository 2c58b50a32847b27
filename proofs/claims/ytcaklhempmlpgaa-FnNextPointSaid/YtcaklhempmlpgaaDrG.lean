/-
  The model's draws of a program that is sometimes bent, of choices, and of runs.
  The model's draw of the arguments of RunPath.
-/
import Derived.Test.YtcaklhempmlpgaaMuG
namespace Go.Proofs.Ytcaklhempmlpgaa
open Go.RowKit Go.Deep
set_option linter.unusedVariables false

/-- What the draw of a program leaves, bent or not. -/
def ProgD (R P : Nat) (w : World) (E : Ending) (w' : World) : Prop := ∃ (ts : List Int) (s : Sts) (At As : Option Addr) (ct cs : Nat), E = .returned (.agg #[.slice At ts.length ct, .slice As s.len cs]) ∧
  ReadsP w' w.heap.size ts s At As ct cs ∧ ts.length ≤ 1000 ∧ s.size ≤ 40000 ∧ SrcV w' R (P + 2010) ∧ But R w w'

set_option maxRecDepth 100000 in
set_option maxHeartbeats 2000000 in
theorem l2Branch_any (R P : Nat) (w : World) (hs : SrcV w R P) (hP : P ≤ 1000) : Calls Try.prog 21 #[.pointer (some ⟨R, 0, none⟩)] w (ProgD R P w) := by
  have hRw := hs.lt
  obtain ⟨w0, hw0⟩ : ∃ w0, w.alloc (.cells #[.slice none 0 0, .slice none 0 0] 26) = w0 := ⟨_, rfl⟩
  have hb0 := (Below.refl w.heap.size w).alloc (Nat.le_refl _) (.cells #[.slice none 0 0, .slice none 0 0] 26)
  have X0 := Lib.hid (heap_alloc_new w (.cells #[.slice none 0 0, .slice none 0 0] 26))
  have S0 := Lib.hid (hs.below hb0)
  have N0 := Lib.hid (But.of_below (R := R) hb0 (Nat.le_refl _))
  have hz0 : w.heap.size + 1 ≤ (w.alloc (.cells #[.slice none 0 0, .slice none 0 0] 26)).heap.size := Nat.le_of_eq (by simp)
  rw [hw0] at X0 S0 N0 hz0
  clear hb0 hs
  go_enter Try.func21, Try.ntmps21
  go_upto_region 1 with (fail)
  clear hw0
  go_wp2_with fail
  refine (l1Texts_any w0).mono ?_
  rintro E w1 ⟨cs, rfl, he1, hcs⟩
  have hb1 : Below w0.heap.size w0 w1 := by rw [he1]; exact (Below.refl _ _).alloc (Nat.le_refl _) _
  have hT1 : w1.heap[w0.heap.size]? = some (.cells cs 9 (0, 0)) := by rw [he1]; exact heap_alloc_new w0 _
  have hz1 : w0.heap.size + 1 ≤ w1.heap.size := by rw [he1]; exact Nat.le_of_eq (by simp)
  have HT1 := Lib.hid hT1
  have S1 := Lib.hid (S0.out.below hb1)
  have N1 := Lib.hid (N0.out.trans (But.of_below hb1 (Nat.le_refl _)))
  have X1 := Lib.hid ((hb1.block w.heap.size (by omega)).trans X0.out)
  have HCS := Lib.hid hcs
  clear he1 hb1 hT1 hcs
  have HK := Lib.hid (pick_any R P 2 w1 (by omega) (by omega) S1.out (by omega))
  go_wp2_with fail
  refine HK.out.mono ?_
  rintro E w2 ⟨v, hv, rfl, ks, ko⟩
  have kz := Nat.le_of_eq ko.size.symm
  have HT2 := Lib.hid ((ko.block w0.heap.size (by omega)).trans HT1.out)
  have S2 := Lib.hid ks
  have N2 := Lib.hid (N1.out.trans (But.of_one ko))
  have X2 := Lib.hid ((ko.block w.heap.size (by omega)).trans X1.out)
  clear ks ko HK HT1
  by_cases hv0 : v = 0
  · subst hv0
    clear hv
    have HK := Lib.hid (pick_any R (P + 1) 8 w2 (by omega) (by omega) S2.out (by omega))
    go_wp2_with fail
    refine HK.out.mono ?_
    rintro E w3 ⟨q, hq, rfl, ks, ko⟩
    have hq8 : q < 8 := by omega
    obtain ⟨tx, htx, hsz⟩ := HCS.out (9 + q) (by omega)
    have kz3 := Nat.le_of_eq ko.size.symm
    have hwr : IntKind.i64.wrap (9 + (q : Int)) = 9 + (q : Int) := IntWalk.i64_in _ (by omega)
    have hnn : (0 : Int) ≤ 9 + (q : Int) := by omega
    have hlt : (9 : Int) + (q : Int) < 25 := by omega
    have htn : ((9 : Int) + (q : Int)).toNat = 9 + q := by omega
    have hcell : w3.cell? ⟨w0.heap.size, 9 + q, none⟩ = some (.string tx) := (cell_of_block ((ko.block w0.heap.size (by omega)).trans HT2.out) (9 + q)).trans htx
    have S3 := Lib.hid ks
    have N3 := Lib.hid (N2.out.trans (But.of_one ko))
    have X3 := Lib.hid ((ko.block w.heap.size (by omega)).trans X2.out)
    clear ks ko HK HCS htx hq HT2
    go_wp2_with fail
    refine (parseProgram_any tx hsz w3).mono ?_
    rintro E w4 ⟨ts, s, At, As, ct, cb, b, rfl, hr, ht6, hs6, hb3⟩
    have hz4 := hb3.size
    obtain ⟨n, hn⟩ : ∃ n, ts.length = n := ⟨_, rfl⟩
    obtain ⟨m, hm⟩ : ∃ m, s.len = m := ⟨_, rfl⟩
    rw [hn, hm]
    have HN := Lib.hid hn
    have HM := Lib.hid hm
    have HT6 := Lib.hid ht6
    have HS3 := Lib.hid hs6
    have hba := (Below.refl w4.heap.size w4).alloc (Nat.le_refl _) (.cells #[.slice At n ct, .slice As m cb] 26)
    have h4z : w4.heap.size + 1 ≤ (w4.alloc (.cells #[.slice At n ct, .slice As m cb] 26)).heap.size := Nat.le_of_eq (by simp)
    have h4n := heap_alloc_new w4 (.cells #[.slice At n ct, .slice As m cb] 26)
    obtain ⟨w5, hw5⟩ : ∃ w5, w4.alloc (.cells #[.slice At n ct, .slice As m cb] 26) = w5 := ⟨_, rfl⟩
    have HR4 := Lib.hid ((hr.below hba).mono (show w.heap.size + 1 ≤ w3.heap.size by omega))
    have S4 := Lib.hid ((S3.out.below hb3).below hba)
    have N4 := Lib.hid ((N3.out.trans (But.of_below hb3 (Nat.le_refl _))).trans (But.of_below hba (Nat.le_refl _)))
    have X4 := Lib.hid ((hba.block w.heap.size (by omega)).trans ((hb3.block w.heap.size (by omega)).trans X3.out))
    rw [hw5] at HR4 S4 N4 X4 h4n h4z
    have x0 : w5.cell? ⟨w4.heap.size, 0, none⟩ = some (.slice At n ct) := (cell_of_block h4n 0).trans rfl
    have x1 : w5.cell? ⟨w4.heap.size, 1, none⟩ = some (.slice As m cb) := (cell_of_block h4n 1).trans rfl
    clear hn hm hba hr hb3 h4n hs6 ht6 hcell hsz hwr hnn hlt htn
    go_upto_region 4 with (fail)
    clear hw5
    have HMU := l1Mutate_any R (P + 1 + 1) ts s At As ct cb w5 S4.out (by omega) (by have := HT6.out; omega) (by have := HS3.out; omega) (HR4.out.1.mono (Nat.zero_le _) (Nat.le_refl _)) (HR4.out.2.mono (Nat.zero_le _) (Nat.le_refl _))
    rw [HN.out, HM.out] at HMU
    replace HMU := Lib.hid HMU
    go_wp2_with fail
    refine HMU.out.mono ?_
    rintro E w9 ⟨ts2, s2, A5, A6, c5, c6, rfl, hr9, ht5, hs6, hs9, hb9⟩
    obtain ⟨n5, hn5⟩ : ∃ n, ts2.length = n := ⟨_, rfl⟩
    obtain ⟨m6, hm6⟩ : ∃ m, s2.len = m := ⟨_, rfl⟩
    rw [hn5] at ht5
    rw [hn5, hm6]
    have HN5 := Lib.hid hn5
    have HM6 := Lib.hid hm6
    have HR9 := Lib.hid hr9
    have S9 := Lib.hid hs9
    have N9 := Lib.hid (N4.out.trans hb9)
    have hX9 := (hb9.block w.heap.size (by omega) (by omega)).trans X4.out
    have HS6 := Lib.hid hs6
    clear hn5 hm6 hr9 hs9 hb9 hs6 HMU
    have z0 : w9.cell? ⟨w.heap.size, 0, none⟩ = some (.slice none 0 0) := (cell_of_block hX9 0).trans rfl
    have z1 : w9.cell? ⟨w.heap.size, 1, none⟩ = some (.slice none 0 0) := (cell_of_block hX9 1).trans rfl
    have y0 := frozen_of_block hX9 0
    have y1 := frozen_of_block hX9 1
    go_wp2_with fail
    refine bodyPost_ret (v := .agg #[.slice A5 n5 c5, .slice A6 m6 c6]) (by simp [results, Try.results21, go_sem, z0, z1]) rfl ⟨ts2, s2, A5, A6, c5, c6, by rw [HN5.out, HM6.out], ((HR9.out.setLow (by omega)).setLow (by omega)).mono (by omega), by rw [HN5.out]; exact ht5, HS6.out, ?_, ?_⟩
    · repeat (refine SrcV.setB ?_ (by omega) _ _)
      exact S9.out.more (by omega)
    · repeat (refine But.setCell ?_ (Nat.le_refl _) _)
      exact N9.out
  · have hv1 : v = 1 := by omega
    subst hv1
    clear hv hv0 HCS HT2
    go_wp2_with fail
    refine (l1Draw_any R (P + 1) w2 S2.out (by omega)).mono ?_
    rintro E w5 ⟨ts, s, At, As, ct, cb, rfl, hr, ht6, hs6, hs5, hb5⟩
    have hz5 := hb5.size
    obtain ⟨n, hn⟩ : ∃ n, ts.length = n := ⟨_, rfl⟩
    obtain ⟨m, hm⟩ : ∃ m, s.len = m := ⟨_, rfl⟩
    rw [hn, hm]
    have HN := Lib.hid hn
    have HM := Lib.hid hm
    have HT6 := Lib.hid ht6
    have HS3 := Lib.hid hs6
    have HR4 := Lib.hid (hr.mono (show w.heap.size + 1 ≤ w2.heap.size by omega))
    have S4 := Lib.hid hs5
    have N4 := Lib.hid (N2.out.trans hb5)
    have X4 := Lib.hid ((hb5.block w.heap.size (by omega) (by omega)).trans X2.out)
    clear hn hm hr hb5 hs6 ht6 hs5
    have HMU := l1Mutate_any R (P + 1 + 2000) ts s At As ct cb w5 S4.out (by omega) (by have := HT6.out; omega) (by have := HS3.out; omega) (HR4.out.1.mono (Nat.zero_le _) (Nat.le_refl _)) (HR4.out.2.mono (Nat.zero_le _) (Nat.le_refl _))
    rw [HN.out, HM.out] at HMU
    replace HMU := Lib.hid HMU
    go_wp2_with fail
    refine HMU.out.mono ?_
    rintro E w9 ⟨ts2, s2, A5, A6, c5, c6, rfl, hr9, ht5, hs6, hs9, hb9⟩
    obtain ⟨n5, hn5⟩ : ∃ n, ts2.length = n := ⟨_, rfl⟩
    obtain ⟨m6, hm6⟩ : ∃ m, s2.len = m := ⟨_, rfl⟩
    rw [hn5] at ht5
    rw [hn5, hm6]
    have HN5 := Lib.hid hn5
    have HM6 := Lib.hid hm6
    have HR9 := Lib.hid hr9
    have S9 := Lib.hid hs9
    have N9 := Lib.hid (N4.out.trans hb9)
    have hX9 := (hb9.block w.heap.size (by omega) (by omega)).trans X4.out
    have HS6 := Lib.hid hs6
    clear hn5 hm6 hr9 hs9 hb9 hs6 HMU
    have z0 : w9.cell? ⟨w.heap.size, 0, none⟩ = some (.slice none 0 0) := (cell_of_block hX9 0).trans rfl
    have z1 : w9.cell? ⟨w.heap.size, 1, none⟩ = some (.slice none 0 0) := (cell_of_block hX9 1).trans rfl
    have y0 := frozen_of_block hX9 0
    have y1 := frozen_of_block hX9 1
    go_wp2_with fail
    refine bodyPost_ret (v := .agg #[.slice A5 n5 c5, .slice A6 m6 c6]) (by simp [results, Try.results21, go_sem, z0, z1]) rfl ⟨ts2, s2, A5, A6, c5, c6, by rw [HN5.out, HM6.out], ((HR9.out.setLow (by omega)).setLow (by omega)).mono (by omega), by rw [HN5.out]; exact ht5, HS6.out, ?_, ?_⟩
    · repeat (refine SrcV.setB ?_ (by omega) _ _)
      exact S9.out.more (by omega)
    · repeat (refine But.setCell ?_ (Nat.le_refl _) _)
      exact N9.out

/-- What the draw of choices leaves. -/
def ChD (R P : Nat) (w : World) (E : Ending) (w' : World) : Prop := ∃ (xs : List Int) (A : Option Addr) (c : Nat), E = .returned (.slice A xs.length c) ∧ RowI w' w.heap.size (.slice A xs.length c) xs ∧ xs.length ≤ 8 ∧ SrcV w' R (P + 10) ∧ But R w w'

set_option maxRecDepth 100000 in
set_option maxHeartbeats 2000000 in
theorem l2Choices_any (R P : Nat) (w : World) (hs : SrcV w R P) (hP : P ≤ 10000) : Calls Try.prog 22 #[.pointer (some ⟨R, 0, none⟩)] w (ChD R P w) := by
  have hRw := hs.lt
  obtain ⟨i0, hi, hz0, hz1, hz2⟩ := info_parts Try.infoInt
  have HI := Lib.hid hi
  have HZ0 := Lib.hid hz0
  have HZ1 := Lib.hid hz1
  have HZ2 := Lib.hid hz2
  clear hi hz0 hz1 hz2
  have hba := (Below.refl w.heap.size w).alloc (Nat.le_refl _) (.cells #[] 3)
  have hbb := (Below.refl (w.alloc (.cells #[] 3)).heap.size (w.alloc (.cells #[] 3))).alloc (Nat.le_refl _) (.cells #[.int .i64 4, .int .i64 2, .int .i64 6, .int .i64 0, .int .i64 8] 3)
  have hz1 : (w.alloc (.cells #[] 3)).heap.size = w.heap.size + 1 := by simp
  have hn1 := num_any R P (w.heap.size + 1) [4, 2, 6, 0, 8] ((w.alloc (.cells #[] 3)).alloc (.cells #[.int .i64 4, .int .i64 2, .int .i64 6, .int .i64 0, .int .i64 8] 3)) (by rw [← hz1]; exact heap_alloc_new _ _) (by omega) (by decide) (by decide) ((hs.below hba).below hbb) (by omega)
  have HN1 : Hid (Calls Try.prog 23 #[.pointer (some ⟨R, 0, none⟩), .slice (some ⟨w.heap.size + 1, 0, none⟩) 5 5] ((w.alloc (.cells #[] 3)).alloc (.cells #[.int .i64 4, .int .i64 2, .int .i64 6, .int .i64 0, .int .i64 8] 3)) _) := hn1
  have HR0 := Lib.hid ((RowI.lit0 w w.heap.size (Nat.le_refl _)).below hbb)
  have HN0 := Lib.hid ((But.of_below (R := R) hba (Nat.le_refl _)).trans (But.of_below hbb (Nat.le_refl _)))
  have hz2 : w.heap.size ≤ ((w.alloc (.cells #[] 3)).alloc (.cells #[.int .i64 4, .int .i64 2, .int .i64 6, .int .i64 0, .int .i64 8] 3)).heap.size := by simp; omega
  clear hn1 hba hbb hs hz1
  go_enter Try.func22, Try.ntmps22
  go_wp2_with fail
  refine HN1.out.mono ?_
  rintro E w1 ⟨v, hv, rfl, ks, ko⟩
  obtain ⟨b, rfl, hb8⟩ : ∃ b : Nat, v = (b : Int) ∧ b ≤ 8 := ⟨v.toNat, by simp only [List.mem_cons, List.not_mem_nil, or_false] at hv; omega, by simp only [List.mem_cons, List.not_mem_nil, or_false] at hv; omega⟩
  have HR1 : Hid (RowI w1 w.heap.size (.slice (some ⟨w.heap.size, 0, none⟩) 0 0) []) := own_keep HR0.out fun g hg => ko.block g (by have := (HR0.out.own.lt g hg).1; omega)
  have S1 : Hid (SrcV w1 R (P + 1 + (b - b))) := ks.more (by omega)
  have N1 := Lib.hid (HN0.out.trans (But.of_one ko))
  have hz3 : w.heap.size ≤ w1.heap.size := by rw [ko.size]; exact hz2
  clear hv ks ko HN1 HR0 HN0 hz2
  go_wp2_with fail
  go_loopw [3, 4] (fun o i wr => ∃ (k : Nat) (xs : List Int) (A : Option Addr) (c : Nat), i = .int .i64 (k : Int) ∧ o = .slice A xs.length c ∧ k ≤ b ∧ Hid (xs.length = b - k) ∧ Hid (RowI wr w.heap.size (.slice A xs.length c) xs) ∧ Hid (SrcV wr R (P + 1 + (b - k))) ∧ Hid (But R w wr)) (fun _ i _ => (intOf i).toNat)
  case atStart => exact ⟨b, [], _, _, rfl, rfl, Nat.le_refl _, by unfold Hid; simp, HR1, S1, N1⟩
  case round =>
    obtain ⟨k, xs, A, c, rfl, rfl, hk, hl, hR, hS, hN⟩ := hrel
    clear HR1 S1 N1 hz3
    have hbz := hN.out.size
    have hxl : xs.length ≤ 8 := by rw [hl.out]; omega
    obtain ⟨q, hq⟩ : ∃ q, xs.length = q := ⟨_, rfl⟩
    have HQ := Lib.hid hq
    rw [hq] at hR hxl ⊢
    clear hq
    by_cases hk0 : k = 0
    · subst hk0
      go_wp2_with fail
      go_ret
      exact ⟨xs, A, c, by rw [HQ.out]; rfl, by rw [HQ.out]; exact hR.out, by rw [HQ.out]; exact hxl, hS.out.more (by omega), hN.out⟩
    · have hkp : 0 < k := by omega
      have e0 : decide (0 < (k : Int)) = true := decide_eq_true (by omega)
      have hba := (Below.refl wr.heap.size wr).alloc (Nat.le_refl _) (.cells #[.int .i64 0, .int .i64 1, .int .i64 0, .int .i64 1, .int .i64 (-1), .int .i64 2] 3)
      have hn1 := num_any R (P + 1 + (b - k)) wr.heap.size [0, 1, 0, 1, -1, 2] (wr.alloc (.cells #[.int .i64 0, .int .i64 1, .int .i64 0, .int .i64 1, .int .i64 (-1), .int .i64 2] 3)) (heap_alloc_new _ _) (by omega) (by decide) (by decide) (hS.out.below hba) (by omega)
      have HN1 : Hid (Calls Try.prog 23 #[.pointer (some ⟨R, 0, none⟩), .slice (some ⟨wr.heap.size, 0, none⟩) 6 6] (wr.alloc (.cells #[.int .i64 0, .int .i64 1, .int .i64 0, .int .i64 1, .int .i64 (-1), .int .i64 2] 3)) _) := hn1
      have HRa := Lib.hid (hR.out.below hba)
      have HNa := Lib.hid (hN.out.trans (But.of_below hba (Nat.le_refl _)))
      have hza := hba.size
      clear hn1 hba
      go_wp2_with fail
      refine HN1.out.mono ?_
      rintro E w2 ⟨v, -, rfl, ks, ko⟩
      have HR2 : Hid (RowI w2 w.heap.size (.slice A q c) xs) := own_keep HRa.out fun g hg => ko.block g (by have := (HRa.out.own.lt g hg).1; omega)
      have HN2 := Lib.hid (HNa.out.trans (But.of_one ko))
      have HS2 := Lib.hid ks
      have hz2 : w.heap.size ≤ w2.heap.size := by rw [ko.size]; omega
      have HOWN : Hid (w2.ownsRow w.heap.size 3 1 (.slice A q c) q (xs.map (Value.int .i64))) := by
        have := HR2.out.own
        rwa [HQ.out] at this
      clear ks ko HN1 HRa HNa hza
      go_wp2_with (at_builtin; refine wpList_append_lies _ rfl _ _ 23 rfl w.heap.size 3 i0 (.int .i64 0) 1 8 Try.underlying23 HI.out HZ0.out HZ1.out HZ2.out rfl (by decide) _ _ _ rfl (HOWN.out.alloc _) ⟨_, 0, none⟩ 1 1 [.int .i64 v] rfl rfl ?la1 ?la2 (by decide) ?la3 ?la4 ?la5 _ rfl ?_)
      try (case la1 => exact news1 (by simp) rfl)
      try (case la2 => intro u hu; simp only [List.mem_cons, List.not_mem_nil, or_false] at hu; subst hu; rfl)
      try (case la3 => unfold maxLen; omega)
      try (case la4 => omega)
      try (case la5 => first | omega | (simp; omega))
      intro g2 cap2 w' hown' hg hat hlt'
      have hR' : RowI w' w.heap.size (.slice (some ⟨g2, 0, none⟩) (q + 1) cap2) (xs ++ [v]) := by
        refine RowI.snoc ?_
        rw [HQ.out]
        exact hown'
      have HR' := Lib.hid hR'
      have HN' := Lib.hid ((HN2.out.alloc _).grown hg (fun k hk => (HOWN.out.lt k hk).1))
      have HS' : Hid (SrcV w' R (P + 1 + (b - (k - 1)))) := ((HS2.out.alloc _).keepR fun j hj => hg.block j (by simp; omega) (fun e => by have := (HOWN.out.lt j e.symm).1; omega)).more (by omega)
      clear hown' hg hat hR' HOWN
      go_wp2_with fail
      go_roundw
      case rel => exact ⟨k - 1, xs ++ [v], _, cap2, by go_num, by rw [List.length_append, HQ.out]; rfl, by omega, by unfold Hid; rw [List.length_append, hl.out]; simp; omega, by unfold Hid; rw [List.length_append, HQ.out]; exact HR'.out, HS', HN'⟩
      case measure => simp [intOf]; omega

end Go.Proofs.Ytcaklhempmlpgaa

namespace Go.Proofs.Ytcaklhempmlpgaa
open Go.RowKit Go.Deep
set_option linter.unusedVariables false

/-- What holds while two cells are read at one place and stored at another. -/
abbrev PrK (n m : Nat) (u0 u1 : Value) (w : World) : Prop := w.cell? ⟨m, 0, none⟩ = some u0 ∧ w.cell? ⟨m, 1, none⟩ = some u1 ∧ w.cell? ⟨n, 0, none⟩ = some (heldC w ⟨n, 0, none⟩) ∧ w.cell? ⟨n, 1, none⟩ = some (heldC w ⟨n, 1, none⟩) ∧ w.frozen? ⟨n, 0, none⟩ = false ∧ w.frozen? ⟨n, 1, none⟩ = false

theorem prK_mk {n m : Nat} {u0 u1 : Value} {w : World} {t : TypeId} (h : w.heap[m]? = some (.cells #[u0, u1] t (0, 0))) (hn : w.heap[n]? = some (.cells #[.slice none 0 0, .slice none 0 0] t (0, 0))) : PrK n m u0 u1 w := by
  have z0 := (cell_of_block hn 0).trans (show _ = some (.slice none 0 0) from rfl)
  have z1 := (cell_of_block hn 1).trans (show _ = some (.slice none 0 0) from rfl)
  exact ⟨(cell_of_block h 0).trans rfl, (cell_of_block h 1).trans rfl, by unfold heldC; rw [z0]; rfl, by unfold heldC; rw [z1]; rfl, frozen_of_block hn 0, frozen_of_block hn 1⟩

theorem prK_put {n m : Nat} {u0 u1 x y : Value} {w : World} (h : PrK n m u0 u1 w) (hne : n ≠ m) : PrK n m u0 u1 ((w.setCell ⟨n, 0, none⟩ x).setCell ⟨n, 1, none⟩ y) := by
  obtain ⟨h1, h2, h3, h4, h5, h6⟩ := h
  have n1 : ∀ (o o' : Nat), (⟨n, o, none⟩ : Addr) ≠ ⟨m, o', none⟩ := fun o o' e => by injection e with e; exact hne e
  have c0 : ((w.setCell ⟨n, 0, none⟩ x).setCell ⟨n, 1, none⟩ y).cell? ⟨n, 0, none⟩ = some x := (World.cell?_setCell_other _ _ _ _ (by simp)).trans (World.cell?_setCell_same _ _ _ h3)
  have c1 : ((w.setCell ⟨n, 0, none⟩ x).setCell ⟨n, 1, none⟩ y).cell? ⟨n, 1, none⟩ = some y := World.cell?_setCell_same _ _ _ ((World.cell?_setCell_other _ _ _ _ (by simp)).trans h4)
  refine ⟨((World.cell?_setCell_other _ _ _ _ (n1 1 0)).trans (World.cell?_setCell_other _ _ _ _ (n1 0 0))).trans h1, ((World.cell?_setCell_other _ _ _ _ (n1 1 1)).trans (World.cell?_setCell_other _ _ _ _ (n1 0 1))).trans h2, ?_, ?_, ?_, ?_⟩
  · rw [c0]; unfold heldC; rw [c0]; rfl
  · rw [c1]; unfold heldC; rw [c1]; rfl
  · rw [World.frozen?_setCell, World.frozen?_setCell]; exact h5
  · rw [World.frozen?_setCell, World.frozen?_setCell]; exact h6

/-- What the draw leaves: a program, choices and a number. -/
def RunD (w : World) (E : Ending) (w' : World) : Prop := ∃ (ts : List Int) (s : Sts) (At As : Option Addr) (ct cs : Nat) (xs : List Int) (A : Option Addr) (c : Nat) (q : Int), E = .returned (.tuple #[.agg #[.slice At ts.length ct, .slice As s.len cs], .slice A xs.length c, .int .i64 q]) ∧
  ReadsP w' w.heap.size ts s At As ct cs ∧ ts.length ≤ 1000 ∧ s.size ≤ 40000 ∧ IntsV w' 0 w'.heap.size xs A c ∧ xs.length ≤ 8 ∧ Below w.heap.size w w'

set_option maxRecDepth 100000 in
set_option maxHeartbeats 2000000 in
theorem drawRunPath_any (nb cb : Nat) (Ab : Option Addr) (w : World) (hB : ByteV w w.heap.size nb Ab cb) : Calls Try.prog 8 #[.slice Ab nb cb] w (RunD w) := by
  obtain ⟨w0, hw0⟩ : ∃ w0, w.alloc (.cells #[.slice none 0 0, .slice none 0 0] 26) = w0 := ⟨_, rfl⟩
  have hb0 := (Below.refl w.heap.size w).alloc (Nat.le_refl _) (.cells #[.slice none 0 0, .slice none 0 0] 26)
  have X0 := Lib.hid (heap_alloc_new w (.cells #[.slice none 0 0, .slice none 0 0] 26))
  have hz0 : w.heap.size + 1 ≤ (w.alloc (.cells #[.slice none 0 0, .slice none 0 0] 26)).heap.size := Nat.le_of_eq (by simp)
  have HO := Lib.hid (l17Open_any nb cb Ab (w.alloc (.cells #[.slice none 0 0, .slice none 0 0] 26)) (hB.below hb0 (by simp)))
  rw [hw0] at X0 hz0 HO
  have HB0 : Hid (Below w.heap.size w w0) := by rw [← hw0]; exact hb0
  clear hb0 hB
  go_enter Try.func8, Try.ntmps8
  go_upto_region 1 with (fail)
  clear hw0
  go_wp2_with fail
  refine HO.out.mono ?_
  rintro E w1 ⟨rfl, hs1, hb1⟩
  have hz1 := hb1.size
  have hsl := hs1.lt
  obtain ⟨R, hR⟩ : ∃ R, w0.heap.size = R := ⟨_, rfl⟩
  have S1 := Lib.hid hs1
  have X1 := Lib.hid ((hb1.block w.heap.size (by omega)).trans X0.out)
  have N1 := Lib.hid (HB0.out.trans (hb1.mono (by omega)))
  rw [hR] at S1 hz0 hz1 hsl
  rw [hR]
  clear hs1 hb1 HO hR
  have HBR := Lib.hid (l2Branch_any R 0 w1 S1.out (by omega))
  go_wp2_with fail
  refine HBR.out.mono ?_
  rintro E w2 ⟨ts, s, At, As, ct, cs, rfl, hr2, ht, hs, hs2, hb2⟩
  have hz2 := hb2.size
  obtain ⟨n, hn⟩ : ∃ n, ts.length = n := ⟨_, rfl⟩
  obtain ⟨m, hm⟩ : ∃ m, s.len = m := ⟨_, rfl⟩
  have HN := Lib.hid hn
  have HM := Lib.hid hm
  rw [hn, hm]
  have hba := (Below.refl w2.heap.size w2).alloc (Nat.le_refl _) (.cells #[.slice At n ct, .slice As m cs] 26)
  have h3n := heap_alloc_new w2 (.cells #[.slice At n ct, .slice As m cs] 26)
  have h3z : w2.heap.size + 1 ≤ (w2.alloc (.cells #[.slice At n ct, .slice As m cs] 26)).heap.size := Nat.le_of_eq (by simp)
  obtain ⟨w3, hw3⟩ : ∃ w3, w2.alloc (.cells #[.slice At n ct, .slice As m cs] 26) = w3 := ⟨_, rfl⟩
  have HR3 := Lib.hid (hr2.below hba)
  have S3 := Lib.hid (hs2.below hba)
  have N3 := Lib.hid ((N1.out.trans ((hb2.below (by omega)).mono (by omega))).trans (hba.mono (by omega)))
  have X3 := Lib.hid ((hba.block w.heap.size (by omega)).trans ((hb2.block w.heap.size (by omega) (by omega)).trans X1.out))
  rw [hw3] at HR3 S3 N3 X3 h3n h3z
  have Y3 := Lib.hid h3n
  have HT := Lib.hid ht
  have HS := Lib.hid hs
  clear hn hm hba h3n hr2 ht hs hs2 hb2 HBR
  have HCH := Lib.hid (l2Choices_any R _ w3 S3.out (by omega))
  go_upto_region 3 with (fail)
  clear hw3
  go_wp2_with fail
  refine HCH.out.mono ?_
  rintro E w4 ⟨xs, A, c, rfl, hI, hx8, hs4, hb4⟩
  have hz4 := hb4.size
  have X4 := (hb4.block w.heap.size (by omega) (by omega)).trans X3.out
  have Y4 := (hb4.block w2.heap.size (by omega) (by omega)).trans Y3.out
  have HR4 := Lib.hid (HR3.out.but hb4 (by omega))
  have HI4 := Lib.hid hI
  have S4 := Lib.hid hs4
  have HX8 := Lib.hid hx8
  have N4 := Lib.hid (N3.out.trans ((hb4.below (by omega)).mono (by omega)))
  obtain ⟨xl, hxl⟩ : ∃ q, xs.length = q := ⟨_, rfl⟩
  have HXL := Lib.hid hxl
  rw [hxl] at HI4
  rw [hxl]
  have hK0 : PrK w.heap.size w2.heap.size (.slice At n ct) (.slice As m cs) w4 := prK_mk Y4 X4
  have hK1 : PrK w.heap.size w2.heap.size (.slice At n ct) (.slice As m cs) w4.drew := hK0
  have hbl := ((Below.refl w4.heap.size w4).alloc (Nat.le_refl _) (.cells #[.int .i64 100, .int .i64 50, .int .i64 5, .int .i64 0, .int .i64 1001, .int .i64 (-1)] 3)).drew
  have hK2 : PrK w.heap.size w2.heap.size (.slice At n ct) (.slice As m cs) (w4.alloc (.cells #[.int .i64 100, .int .i64 50, .int .i64 5, .int .i64 0, .int .i64 1001, .int .i64 (-1)] 3)).drew := prK_mk ((hbl.block w2.heap.size (by omega)).trans Y4) ((hbl.block w.heap.size (by omega)).trans X4)
  have Y5 := Lib.hid ((hbl.block w2.heap.size (by omega)).trans Y4)
  have X5 := Lib.hid ((hbl.block w.heap.size (by omega)).trans X4)
  have HNM := Lib.hid (num_any R _ w4.heap.size [100, 50, 5, 0, 1001, -1] (w4.alloc (.cells #[.int .i64 100, .int .i64 50, .int .i64 5, .int .i64 0, .int .i64 1001, .int .i64 (-1)] 3)).drew (heap_alloc_new w4 _) (by omega) (by decide) (by decide) (S4.out.below hbl) (by omega))
  have HBL := Lib.hid hbl
  have hne : w.heap.size ≠ w2.heap.size := by omega
  clear X4 Y4 hI hs4 hb4 hx8 hxl hbl HCH
  go_upto_region 4 with (fail)
  go_region_held3 (PrK w.heap.size w2.heap.size (.slice At n ct) (.slice As m cs))
    (first | with_reducible exact hK0 | with_reducible exact hK1 | with_reducible exact hK2 | with_reducible exact hK3 | with_reducible exact prK_put hK3 hne)
    ((go_at_call 23; refine HNM.out.mono ?_; rintro E w7 ⟨q, hq, rfl, ks7, ko7⟩; have hY7 := (ko7.block w2.heap.size (by omega)).trans Y5.out; have hX7 := (ko7.block w.heap.size (by omega)).trans X5.out; have hK3 : PrK w.heap.size w2.heap.size (.slice At n ct) (.slice As m cs) w7 := prK_mk hY7 hX7))
  have k7 : w4.heap.size ≤ w7.heap.size := by rw [ko7.size]; exact HBL.out.size
  have HRF := Lib.hid (((((HR4.out.below HBL.out).but (But.of_one ko7) (by omega)).setLow (o := 0) (x := .slice At n ct) (show w.heap.size < w1.heap.size by omega)).setLow (o := 1) (x := .slice As m cs) (show w.heap.size < w1.heap.size by omega)).mono (show w.heap.size ≤ w1.heap.size by omega))
  have HIF : Hid (IntsV ((w7.setCell ⟨w.heap.size, 0, none⟩ (.slice At n ct)).setCell ⟨w.heap.size, 1, none⟩ (.slice As m cs)) 0 ((w7.setCell ⟨w.heap.size, 0, none⟩ (.slice At n ct)).setCell ⟨w.heap.size, 1, none⟩ (.slice As m cs)).heap.size xs A c) :=
    HI4.out.intsB.keep (Nat.zero_le _) (by simp [World.setCell]; exact k7) fun p h1 h2 => by
      rw [World.cell?_setCell_other _ _ _ _ (fun e => by subst e; simp at h1; omega), World.cell?_setCell_other _ _ _ _ (fun e => by subst e; simp at h1; omega)]
      exact World.cell?_of_block ((ko7.block p.block (by omega)).trans (HBL.out.block p.block h2))
  have HBF := Lib.hid ((((N4.out.trans (HBL.out.mono (by omega))).trans (ko7.below (by omega))).setCell (p := ⟨w.heap.size, 0, none⟩) (Nat.le_refl _) (.slice At n ct)).setCell (p := ⟨w.heap.size, 1, none⟩) (Nat.le_refl _) (.slice As m cs))
  have z0 : w7.cell? ⟨w.heap.size, 0, none⟩ = some (.slice none 0 0) := (cell_of_block hX7 0).trans rfl
  have z1 : w7.cell? ⟨w.heap.size, 1, none⟩ = some (.slice none 0 0) := (cell_of_block hX7 1).trans rfl
  clear hK0 hK1 hK2 hK3 HNM ks7 ko7 hY7 hX7 hq
  go_wp2_with fail
  exact bodyPost_ret (v := .tuple #[.agg #[.slice At n ct, .slice As m cs], .slice A xl c, .int .i64 q]) (by simp [results, Try.results8, go_sem, z0, z1]) rfl ⟨ts, s, At, As, ct, cs, xs, A, c, q, by rw [HN.out, HM.out, HXL.out], HRF.out, HT.out, HS.out, HIF.out, HX8.out, HBF.out⟩

end Go.Proofs.Ytcaklhempmlpgaa
