/-
  The model's draws of a program that is sometimes bent, of choices, and of runs.
-/
import Derived.Test.YtlddoookojjleaaZDwE
namespace Go.Proofs.Ytlddoookojjleaa
open Go.RowKit Go.Deep
set_option linter.unusedVariables false

/-- What the draw of choices leaves. -/
def ChD (R P : Nat) (w : World) (E : Ending) (w' : World) : Prop := ∃ (xs : List Int) (A : Option Addr) (c : Nat), E = .returned (.slice A xs.length c) ∧ RowI w' w.heap.size (.slice A xs.length c) xs ∧ xs.length ≤ 8 ∧ SrcV w' R (P + 10) ∧ But R w w'

set_option maxRecDepth 100000 in
set_option maxHeartbeats 2000000 in
theorem l2Choices_any (R P : Nat) (w : World) (hs : SrcV w R P) (hP : P ≤ 10000) : Calls Try.prog 42 #[.pointer (some ⟨R, 0, none⟩)] w (ChD R P w) := by
  have hRw := hs.lt
  obtain ⟨i0, hi, hz0, hz1, hz2⟩ := info_parts Try.infoInt
  have HI := Lib.hid hi
  have HZ0 := Lib.hid hz0
  have HZ1 := Lib.hid hz1
  have HZ2 := Lib.hid hz2
  clear hi hz0 hz1 hz2
  have hba := (Below.refl w.heap.size w).alloc (Nat.le_refl _) (.cells #[] 3)
  have hbb := (Below.refl (w.alloc (.cells #[] 3)).heap.size (w.alloc (.cells #[] 3))).alloc (Nat.le_refl _) (.cells #[.int .i64 4, .int .i64 2, .int .i64 6, .int .i64 0, .int .i64 8] 3)
  have hz1 : (w.alloc (.cells #[] 3)).heap.size = w.heap.size + 1 := by simp
  have hn1 := num_any R P (w.heap.size + 1) [4, 2, 6, 0, 8] ((w.alloc (.cells #[] 3)).alloc (.cells #[.int .i64 4, .int .i64 2, .int .i64 6, .int .i64 0, .int .i64 8] 3)) (by rw [← hz1]; exact heap_alloc_new _ _) (by omega) (by decide) (by decide) ((hs.below hba).below hbb) (by omega)
  have HN1 : Hid (Calls Try.prog 44 #[.pointer (some ⟨R, 0, none⟩), .slice (some ⟨w.heap.size + 1, 0, none⟩) 5 5] ((w.alloc (.cells #[] 3)).alloc (.cells #[.int .i64 4, .int .i64 2, .int .i64 6, .int .i64 0, .int .i64 8] 3)) _) := hn1
  have HR0 := Lib.hid ((RowI.lit0 w w.heap.size (Nat.le_refl _)).below hbb)
  have HN0 := Lib.hid ((But.of_below (R := R) hba (Nat.le_refl _)).trans (But.of_below hbb (Nat.le_refl _)))
  have hz2 : w.heap.size ≤ ((w.alloc (.cells #[] 3)).alloc (.cells #[.int .i64 4, .int .i64 2, .int .i64 6, .int .i64 0, .int .i64 8] 3)).heap.size := by simp; omega
  clear hn1 hba hbb hs hz1
  go_enter Try.func42, Try.ntmps42
  go_wp2_with fail
  refine HN1.out.mono ?_
  rintro E w1 ⟨v, hv, rfl, ks, ko⟩
  obtain ⟨b, rfl, hb8⟩ : ∃ b : Nat, v = (b : Int) ∧ b ≤ 8 := ⟨v.toNat, by simp only [List.mem_cons, List.not_mem_nil, or_false] at hv; omega, by simp only [List.mem_cons, List.not_mem_nil, or_false] at hv; omega⟩
  have HR1 : Hid (RowI w1 w.heap.size (.slice (some ⟨w.heap.size, 0, none⟩) 0 0) []) := own_keep HR0.out fun g hg => ko.block g (by have := (HR0.out.own.lt g hg).1; omega)
  have S1 : Hid (SrcV w1 R (P + 1 + (b - b))) := ks.more (by omega)
  have N1 := Lib.hid (HN0.out.trans (But.of_one ko))
  have hz3 : w.heap.size ≤ w1.heap.size := by rw [ko.size]; exact hz2
  clear hv ks ko HN1 HR0 HN0 hz2
  go_wp2_with fail
  go_loopw [3, 4] (fun o i wr => ∃ (k : Nat) (xs : List Int) (A : Option Addr) (c : Nat), i = .int .i64 (k : Int) ∧ o = .slice A xs.length c ∧ k ≤ b ∧ Hid (xs.length = b - k) ∧ Hid (RowI wr w.heap.size (.slice A xs.length c) xs) ∧ Hid (SrcV wr R (P + 1 + (b - k))) ∧ Hid (But R w wr)) (fun _ i _ => (intOf i).toNat)
  case atStart => exact ⟨b, [], _, _, rfl, rfl, Nat.le_refl _, by unfold Hid; simp, HR1, S1, N1⟩
  case round =>
    obtain ⟨k, xs, A, c, rfl, rfl, hk, hl, hR, hS, hN⟩ := hrel
    clear HR1 S1 N1 hz3
    have hbz := hN.out.size
    have hxl : xs.length ≤ 8 := by rw [hl.out]; omega
    obtain ⟨q, hq⟩ : ∃ q, xs.length = q := ⟨_, rfl⟩
    have HQ := Lib.hid hq
    rw [hq] at hR hxl ⊢
    clear hq
    by_cases hk0 : k = 0
    · subst hk0
      go_wp2_with fail
      go_ret
      exact ⟨xs, A, c, by rw [HQ.out]; rfl, by rw [HQ.out]; exact hR.out, by rw [HQ.out]; exact hxl, hS.out.more (by omega), hN.out⟩
    · have hkp : 0 < k := by omega
      have e0 : decide (0 < (k : Int)) = true := decide_eq_true (by omega)
      have hba := (Below.refl wr.heap.size wr).alloc (Nat.le_refl _) (.cells #[.int .i64 0, .int .i64 1, .int .i64 0, .int .i64 1, .int .i64 (-1), .int .i64 2] 3)
      have hn1 := num_any R (P + 1 + (b - k)) wr.heap.size [0, 1, 0, 1, -1, 2] (wr.alloc (.cells #[.int .i64 0, .int .i64 1, .int .i64 0, .int .i64 1, .int .i64 (-1), .int .i64 2] 3)) (heap_alloc_new _ _) (by omega) (by decide) (by decide) (hS.out.below hba) (by omega)
      have HN1 : Hid (Calls Try.prog 44 #[.pointer (some ⟨R, 0, none⟩), .slice (some ⟨wr.heap.size, 0, none⟩) 6 6] (wr.alloc (.cells #[.int .i64 0, .int .i64 1, .int .i64 0, .int .i64 1, .int .i64 (-1), .int .i64 2] 3)) _) := hn1
      have HRa := Lib.hid (hR.out.below hba)
      have HNa := Lib.hid (hN.out.trans (But.of_below hba (Nat.le_refl _)))
      have hza := hba.size
      clear hn1 hba
      go_wp2_with fail
      refine HN1.out.mono ?_
      rintro E w2 ⟨v, -, rfl, ks, ko⟩
      have HR2 : Hid (RowI w2 w.heap.size (.slice A q c) xs) := own_keep HRa.out fun g hg => ko.block g (by have := (HRa.out.own.lt g hg).1; omega)
      have HN2 := Lib.hid (HNa.out.trans (But.of_one ko))
      have HS2 := Lib.hid ks
      have hz2 : w.heap.size ≤ w2.heap.size := by rw [ko.size]; omega
      have HOWN : Hid (w2.ownsRow w.heap.size 3 1 (.slice A q c) q (xs.map (Value.int .i64))) := by
        have := HR2.out.own
        rwa [HQ.out] at this
      clear ks ko HN1 HRa HNa hza
      go_wp2_with (at_builtin; refine wpList_append_lies _ rfl _ _ 22 rfl w.heap.size 3 i0 (.int .i64 0) 1 8 Try.underlying22 HI.out HZ0.out HZ1.out HZ2.out rfl (by decide) _ _ _ rfl (HOWN.out.alloc _) ⟨_, 0, none⟩ 1 1 [.int .i64 v] rfl rfl ?la1 ?la2 (by decide) ?la3 ?la4 ?la5 _ rfl ?_)
      try (case la1 => exact news1 (by simp) rfl)
      try (case la2 => intro u hu; simp only [List.mem_cons, List.not_mem_nil, or_false] at hu; subst hu; rfl)
      try (case la3 => unfold maxLen; omega)
      try (case la4 => omega)
      try (case la5 => first | omega | (simp; omega))
      intro g2 cap2 w' hown' hg hat hlt'
      have hR' : RowI w' w.heap.size (.slice (some ⟨g2, 0, none⟩) (q + 1) cap2) (xs ++ [v]) := by
        refine RowI.snoc ?_
        rw [HQ.out]
        exact hown'
      have HR' := Lib.hid hR'
      have HN' := Lib.hid ((HN2.out.alloc _).grown hg (fun k hk => (HOWN.out.lt k hk).1))
      have HS' : Hid (SrcV w' R (P + 1 + (b - (k - 1)))) := ((HS2.out.alloc _).keepR fun j hj => hg.block j (by simp; omega) (fun e => by have := (HOWN.out.lt j e.symm).1; omega)).more (by omega)
      clear hown' hg hat hR' HOWN
      go_wp2_with fail
      go_roundw
      case rel => exact ⟨k - 1, xs ++ [v], _, cap2, by go_num, by rw [List.length_append, HQ.out]; rfl, by omega, by unfold Hid; rw [List.length_append, hl.out]; simp; omega, by unfold Hid; rw [List.length_append, HQ.out]; exact HR'.out, HS', HN'⟩
      case measure => simp [intOf]; omega

end Go.Proofs.Ytlddoookojjleaa
