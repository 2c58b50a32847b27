/-
  The program's intervals: whether one has a point, and its points.
-/
import Derived.Test.YtfkhgdbnjcdlmaaZLpA
import Derived.Test.YtfkhgdbnjcdlmaaZMem
import Derived.Deep.RegionWith
namespace Go.Proofs.Ytfkhgdbnjcdlmaa
open Go.RowKit Go.Deep
set_option linter.unusedVariables false

set_option maxHeartbeats 1000000 in
theorem intervalHas_any (a b at_ : Int) (w : World) :
    Calls Try.prog 12 #[.agg #[.int .i64 a, .int .i64 b], .int .i64 at_] w fun E w' => E = .returned (.bool (hasI at_ (a, b))) ∧ Below w.heap.size w w' := by
  have hb0 := (Below.refl w.heap.size w).alloc (Nat.le_refl _) (.cells #[.int .i64 a, .int .i64 b] 43)
  by_cases h1 : a ≤ at_
  · have d1 : decide (a ≤ at_) = true := decide_eq_true h1
    by_cases h2 : at_ ≤ b
    · have d2 : decide (at_ ≤ b) = true := decide_eq_true h2
      have e : Hid (hasI at_ (a, b) = true) := by unfold Hid hasI; simp only [d1, d2]; rfl
      clear h1 h2
      go_enter Try.func12, Try.ntmps12
      go_wp2_with fail
      go_ret
      rw [e.out]
      exact ⟨rfl, by first | exact hb0 | exact hb0.drew⟩
    · have d2 : decide (at_ ≤ b) = false := decide_eq_false h2
      have e : Hid (hasI at_ (a, b) = false) := by unfold Hid hasI; simp only [d1, d2]; rfl
      clear h1 h2
      go_enter Try.func12, Try.ntmps12
      go_wp2_with fail
      go_ret
      rw [e.out]
      exact ⟨rfl, by first | exact hb0 | exact hb0.drew⟩
  · have d1 : decide (a ≤ at_) = false := decide_eq_false h1
    have e : Hid (hasI at_ (a, b) = false) := by unfold Hid hasI; simp only [d1]; rfl
    clear h1
    go_enter Try.func12, Try.ntmps12
    go_wp2_with fail
    go_ret
    rw [e.out]
    exact ⟨rfl, by first | exact hb0 | exact hb0.drew⟩

theorem rangeI_take {i j : Int} {k : Nat} (h : k < (j + 1 - i).toNat) : (rangeI i j).take (k + 1) = (rangeI i j).take k ++ [i + (k : Int)] := by
  rw [List.take_add_one, rangeI_get h]
  rfl

set_option maxRecDepth 100000 in
set_option maxHeartbeats 2000000 in
theorem intervalList_any (a b : Int) (w : World) (h0 : 0 ≤ a) (hab : a ≤ b) (hb1 : b ≤ 1000) :
    Calls Try.prog 13 #[.agg #[.int .i64 a, .int .i64 b]] w fun E w' => ∃ v, E = .returned v ∧ RowI w' w.heap.size v (rangeI a b) ∧ Below w.heap.size w w' := by
  obtain ⟨i0, hi, hz0, hz1, hz2⟩ := info_parts Try.infoInt
  have HI := Lib.hid hi
  have HZ0 := Lib.hid hz0
  have HZ1 := Lib.hid hz1
  have HZ2 := Lib.hid hz2
  clear hi hz0 hz1 hz2
  obtain ⟨m, hm⟩ : ∃ m : Nat, (b + 1 - a).toNat = m := ⟨_, rfl⟩
  have hmb : b = a + (m : Int) - 1 := by omega
  have HM := Lib.hid hm
  have HMB := Lib.hid hmb
  have hm9 : m ≤ 1001 := by omega
  have hbA := (Below.refl w.heap.size w).alloc (Nat.le_refl _) (.cells #[.int .i64 a, .int .i64 b] 43)
  have hX := heap_alloc_new w (.cells #[.int .i64 a, .int .i64 b] 43)
  have hzA : (w.alloc (.cells #[.int .i64 a, .int .i64 b] 43)).heap.size = w.heap.size + 1 := by simp
  clear hm hmb
  go_enter Try.func13, Try.ntmps13
  go_wp2_with fail
  generalize w.alloc (.cells #[.int .i64 a, .int .i64 b] 43) = w1 at hbA hX hzA ⊢
  have HX := Lib.hid hX
  have HZA : Hid (w.heap.size + 1 ≤ w1.heap.size) := Nat.le_of_eq hzA.symm
  have HBA := Lib.hid hbA
  have hrow0 : Hid (RowI w1 (w.heap.size + 1) (.slice none 0 0) []) := World.ownsRow_nil w1 (w.heap.size + 1) 3 1
  clear hX hzA hbA
  go_loopw [3, 4] (fun p i wr => ∃ k : Nat, k ≤ m ∧ i = .int .i64 (a + (k : Int)) ∧ Hid (RowI wr (w.heap.size + 1) p ((rangeI a b).take k)) ∧ Below (w.heap.size + 1) w1 wr) (fun _ i _ => (b + 1 - intOf i).toNat)
  case atStart => exact ⟨0, Nat.zero_le _, by simp, hrow0, Below.refl _ _⟩
  case round =>
    clear hrow0
    obtain ⟨k, hk, rfl, hrow, hb⟩ := hrel
    have hbz := hb.size
    have hc1 : wr.cell? ⟨w.heap.size, 1, none⟩ = some (.int .i64 b) := (cell_of_block ((hb.block w.heap.size (by omega)).trans HX.out) 1).trans rfl
    have hzz := HZA.out
    by_cases hlt : k < m
    · have hd : decide (a + (k : Int) ≤ b) = true := decide_eq_true (by have := HMB.out; omega)
      have f1 : IntKind.i64.wrap (a + (k : Int) + 1) = a + (k : Int) + 1 := IntWalk.i64_in _ (by omega)
      have hnext := Lib.hid (rangeI_take (i := a) (j := b) (k := k) (by rw [HM.out]; exact hlt))
      have hlen : ((rangeI a b).take k).length = k := by rw [List.length_take, rangeI_len, HM.out]; omega
      obtain ⟨cur, hcur⟩ : ∃ cur, (rangeI a b).take k = cur := ⟨_, rfl⟩
      rw [hcur] at hrow hnext hlen
      have HLEN := Lib.hid hlen
      clear hlen hcur
      go_wp2_with (at_builtin; refine wpList_append_own _ rfl _ _ 23 rfl (w.heap.size + 1) 3 i0 (.int .i64 0) 1 8 Try.underlying23 HI.out HZ0.out HZ1.out HZ2.out rfl (by decide) _ _ _ rfl ((RowI.own hrow.out).alloc _) ⟨_, 0, none⟩ 1 1 [.int .i64 (a + (k : Int))] rfl rfl ?ra1 ?ra2 ?ra3 ?ra4 ?ra5 ?_)
      try (case ra1 => exact news1 (by simp) rfl)
      try (case ra2 => intro u hu; simp only [List.mem_cons, List.not_mem_nil, or_false] at hu; subst hu; rfl)
      try (case ra3 => have := HLEN.out; unfold maxLen; omega)
      try (case ra4 => have := HLEN.out; omega)
      try (case ra5 => simp; omega)
      intro v' w' hown' hgr hne
      have hb' := (hb.alloc (by omega) (.cells #[Value.int .i64 (a + (k : Int))] 3)).grown hgr (by simp; omega) (fun g hg' => ((RowI.own hrow.out).lt g hg').1)
      have HR' : Hid (RowI w' (w.heap.size + 1) v' (cur ++ [a + (k : Int)])) := RowI.snoc hown'
      clear hown' hgr hne hc1
      go_wp2_with fail
      refine ⟨⟨k + 1, by omega, ?_, by rw [hnext.out]; exact HR', hb'⟩, ?_⟩
      · congr 1
        omega
      · have := HMB.out
        simp only [intOf]
        omega
    · have hke : k = m := by omega
      have hd : decide (a + (k : Int) ≤ b) = false := decide_eq_false (by have := HMB.out; omega)
      have hfull : Hid ((rangeI a b).take k = rangeI a b) := by unfold Hid; rw [List.take_of_length_le]; rw [rangeI_len, HM.out]; omega
      clear hke
      go_wp2_with fail
      go_ret
      refine ⟨_, rfl, ?_, HBA.out.trans (hb.mono (by omega))⟩
      rw [← hfull.out]
      exact hrow.out.mono (by omega)

end Go.Proofs.Ytfkhgdbnjcdlmaa
