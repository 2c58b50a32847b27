/-
  New cells, by the model.
-/
import Derived.Test.YtboadhlhpnbpiaaDoorCelP
import Derived.Test.YtboadhlhpnbpiaaDoorCelQ
import Derived.Test.YtboadhlhpnbpiaaDoorCelRd
namespace Go.Proofs.YtboadhlhpnbpiaaDoor
open Go.RowKit Go.Deep
set_option linter.unusedVariables false

/-- A memory, a pointer and a flag. -/
def Post5 (m : List CellD) (p : Int × Int) (ok : Bool) (w : World) (E : Ending) (w' : World) : Prop := ∃ A n c, E = .returned (.tuple #[.slice A n c, .agg #[.int .i64 p.1, .int .i64 p.2], .bool ok]) ∧ RowC w' w.heap.size (.slice A n c) m ∧ Below w.heap.size w w'

theorem RowC.empty {w : World} {B H : Nat} (hH : w.heap.size = H) (hB : B ≤ H) : RowC (w.alloc (.cells #[] 57)) B (.slice (some ⟨H, 0, none⟩) 0 0) [] :=
  ⟨[], rfl, own_empty hH hB, fun j p hp => by simp at hp, fun i j p q a b hij hp => by simp at hp⟩

theorem RowC.nil (w : World) (B : Nat) : RowC w B (.slice none 0 0) [] :=
  ⟨[], rfl, World.ownsRow_nil _ _ _ _, fun j p hp => by simp at hp, fun i j p q a b hij hp => by simp at hp⟩

set_option maxRecDepth 100000 in
set_option maxHeartbeats 4000000 in
theorem specNewCell_any (cs : List CellD) (A : Option Addr) (q c : Nat) (v : Int) (w : World) (h : RdC w (.slice A q c) cs) (hl : cs.length + tagSum cs ≤ 1048600) :
    Calls Tryd.prog 11 #[.slice A q c, .int .i64 v] w (Post5 (newA cs v).1 (newA cs v).2.1 (newA cs v).2.2 w) := by
  obtain ⟨hq, hc1, hc2⟩ := h.len
  unfold maxLen at hc2
  have hbo : ∀ o, Below w.heap.size w (w.alloc o) := fun o => (Below.refl w.heap.size w).alloc (Nat.le_refl _) o
  have HBO := Lib.hid hbo
  have hX := heap_alloc_new w (.cells #[.int .i64 0, .int .i64 0] 26)
  have hz : (w.alloc (.cells #[.int .i64 0, .int .i64 0] 26)).heap.size = w.heap.size + 1 := by simp
  have HX := Lib.hid hX
  have HZ := Lib.hid hz
  have H := Lib.hid h
  have hval := specCellsValid_any cs A q c _ (h.below (hbo (.cells #[.int .i64 0, .int .i64 0] 26)))
  have HN := Lib.hid hq
  have bad : ∀ (hA : newA cs v = ([], (0, 0), false)), Hid (newA cs v = ([], (0, 0), false)) := fun h => h
  have HBAD := Lib.hid bad
  clear hbo hX hz h bad
  by_cases hgood : memB cs = true ∧ 0 ≤ v ∧ v ≤ 9 ∧ cs.length < 200
  · have hA : newA cs v = (cs ++ [⟨v, true, 1, [⟨0, true⟩]⟩], ((cs.length : Int), (0 : Int)), true) := by unfold newA; rw [if_pos hgood]
    rw [hA]
    obtain ⟨g1, g2, g3, g4⟩ := hgood
    rw [← hq] at g4
    rw [g1] at hval
    have HV := Lib.hid hval
    have t1 : decide (v < 0) = false := decide_eq_false (by omega)
    have t2 : decide (9 < v) = false := decide_eq_false (by omega)
    have t3 : ((q : Int) == 200) = false := by simp; omega
    obtain ⟨i0, hi, hzz0, hzz1, hzz2⟩ := info_parts Tryd.infoCell
    have HI := Lib.hid hi
    have HZ0 := Lib.hid hzz0
    have HZ1 := Lib.hid hzz1
    have HZ2 := Lib.hid hzz2
    clear hA hval g1 hq hi hzz0 hzz1 hzz2
    go_enter Tryd.func11, Tryd.ntmps11
    go_wp2_with fail
    refine HV.out.mono ?_
    rintro E w1 ⟨rfl, hb1⟩
    rw [HZ.out] at hb1
    have hX1 := (hb1.block w.heap.size (by omega)).trans HX.out
    have hbb : Below w.heap.size w w1 := (HBO.out _).trans (hb1.mono (by omega))
    have hz1 := hb1.size
    rw [HZ.out] at hz1
    have HX1 := Lib.hid hX1
    clear hb1 hX1
    go_wp2_with fail
    refine (l6Copy_any cs A q c w1 (H.out.below hbb) hl).mono ?_
    rintro E w2 ⟨v1, rfl, hR2, hb2⟩
    have hX2 := (hb2.block w.heap.size (by omega)).trans HX1.out
    have hbb2 := hbb.trans (hb2.mono hbb.size)
    have hz2 := hb2.size
    obtain ⟨rs, hrs, hU⟩ := hR2
    obtain ⟨A1, c1, hv1, hn1, hn2, -⟩ := own_form hU.own
    have hrl : rs.length = q := by
      have h9 := congrArg List.length hrs
      rw [List.length_map] at h9
      rw [h9]
      exact HN.out.symm
    rw [hrl] at hv1 hn1
    subst hv1
    have HU := Lib.hid hU
    have HRS := Lib.hid hrs
    have HRL := Lib.hid hrl
    have HX2 := Lib.hid hX2
    have HB2 := Lib.hid hb2
    unfold maxLen at hn2
    clear hU hrs hrl hb2 hX2
    go_wp2_with (at_builtin; refine wpList_append_lies _ rfl _ _ 24 rfl w1.heap.size 57 i0 (.agg #[.int .i64 0, .bool false, .int .i64 0, .slice none 0 0]) 4 48 Tryd.underlying24 HI.out HZ0.out HZ1.out HZ2.out rfl (by decide) _ _ _ rfl ((HU.out.own.alloc _).alloc _) ⟨_, 0, none⟩ 1 1 [.int .i64 v, .bool true, .int .i64 1, .slice (some ⟨w2.heap.size, 0, none⟩) 1 1] rfl rfl ?ra1 ?ra2 (by decide) ?ra3 ?ra4 ?ra5 _ rfl ?_)
    try (case ra1 => exact news1 (by simp) rfl)
    try (case ra2 => intro u hu; simp only [List.mem_cons, List.not_mem_nil, or_false] at hu; rcases hu with rfl | rfl | rfl | rfl <;> rfl)
    try (case ra3 => unfold maxLen; have := HRL.out; omega)
    try (case ra4 => have := HRL.out; omega)
    try (case ra5 => simp; omega)
    intro g cap w' hown' hgr hat hlt'
    obtain ⟨W3, hW3⟩ : ∃ W3, W3 = (w2.alloc (.cells #[.int .i64 0, .bool true] 54)).alloc (.cells #[.int .i64 v, .bool true, .int .i64 1, .slice (some ⟨w2.heap.size, 0, none⟩) 1 1] 57) := ⟨_, rfl⟩
    rw [← hW3] at hgr
    have hb3 : Below w2.heap.size w2 W3 := by rw [hW3]; exact ((Below.refl _ _).alloc (Nat.le_refl _) _).alloc (by simp) _
    have hT3 : RowT W3 w2.heap.size (.slice (some ⟨w2.heap.size, 0, none⟩) 1 1) [⟨0, true⟩] := by
      rw [hW3]
      exact own_below (own_tag 0 true rfl (Nat.le_refl _)) ((Below.refl _ _).alloc (Nat.le_refl _) _)
    have hfin := RowU.snoc (p := (⟨v, true, 1, [⟨0, true⟩]⟩, .slice (some ⟨w2.heap.size, 0, none⟩) 1 1)) (HU.out.below hb3) (own_mono hT3 hz2) (fun j r a hr ha e => by
      have e1 := (World.ownsRow.lt (HU.out.tags j r hr) a ha).2
      have e2 := (World.ownsRow.lt hT3 a e).1
      omega) hgr hown'
    have hz3 := hb3.size
    have hX' := (hgr.block w.heap.size (by omega) (fun e => by have := (HU.out.own.lt w.heap.size e.symm).1; omega)).trans ((hb3.block w.heap.size (by omega)).trans HX2.out)
    have hbw : Below w.heap.size w w' := ((hbb2.trans (hb3.mono hbb2.size)).grown hgr (by omega) (fun k hk => by have := (HU.out.own.lt k hk).1; omega))
    have x0 : w'.cell? ⟨w.heap.size, 0, none⟩ = some (.int .i64 0) := (cell_of_block hX' 0).trans rfl
    have x1 : w'.cell? ⟨w.heap.size, 1, none⟩ = some (.int .i64 0) := (cell_of_block hX' 1).trans rfl
    have f0 := frozen_of_block hX' 0
    have f1 := frozen_of_block hX' 1
    have hrow : RowC w' w1.heap.size (.slice (some ⟨g, 0, none⟩) (q + 1) cap) (cs ++ [⟨v, true, 1, [⟨0, true⟩]⟩]) := by
      refine ⟨_, ?_, by rw [← HRL.out]; exact hfin⟩
      rw [List.map_append, HRS.out]
      rfl
    have HROW := Lib.hid hrow
    have HRL2 := Lib.hid (show rs.length + 1 = q + 1 by rw [HRL.out])
    clear hfin hX' hb3 hT3 hgr hown' hat hz3 hrow hW3
    rw [HRL2.out]
    go_wp2_with fail
    refine bodyPost_ret (v := .tuple #[.slice (some ⟨g, 0, none⟩) (q + 1) cap, .agg #[.int .i64 (q : Int), .int .i64 0], .bool true]) (by simp [results, Tryd.results11, go_sem, x0, x1]) rfl ⟨_, _, _, by rw [HN.out], ((HROW.out.setLow (by omega)).setLow (by omega)).mono (by omega), ?_⟩
    exact (hbw.setCell (Nat.le_refl _) _).setCell (Nat.le_refl _) _
  · have hA : newA cs v = ([], (0, 0), false) := by unfold newA; rw [if_neg hgood]
    rw [hA]
    clear hA
    have hfin : ∀ w1, Below (w.heap.size + 1) (w.alloc (.cells #[.int .i64 0, .int .i64 0] 26)) w1 → Hid (Below w.heap.size w w1 ∧ w1.heap[w.heap.size]? = some (.cells #[.int .i64 0, .int .i64 0] 26 (0, 0)) ∧ w.heap.size + 1 ≤ w1.heap.size) := fun w1 hb1 => by
      have := hb1.size
      rw [HZ.out] at this
      exact ⟨(HBO.out _).trans (hb1.mono (by omega)), (hb1.block w.heap.size (by omega)).trans HX.out, this⟩
    have HFIN := Lib.hid hfin
    clear hfin
    rw [← hq] at hgood
    cases hB : memB cs with
    | false =>
      rw [hB] at hval
      have HV := Lib.hid hval
      clear hval hB hgood hq
      go_enter Tryd.func11, Tryd.ntmps11
      go_wp2_with fail
      refine HV.out.mono ?_
      rintro E w1 ⟨rfl, hb1⟩
      rw [HZ.out] at hb1
      obtain ⟨hbb, hX1, hz1⟩ := (HFIN.out w1 hb1).out
      have hX2 : ∀ o, (w1.alloc o).heap[w.heap.size]? = some (.cells #[.int .i64 0, .int .i64 0] 26 (0, 0)) := fun o => (Below.heap_alloc _ _ _ (by omega)).trans hX1
      have x0 : ∀ o, (w1.alloc o).cell? ⟨w.heap.size, 0, none⟩ = some (.int .i64 0) := fun o => (cell_of_block (hX2 o) 0).trans rfl
      have x1 : ∀ o, (w1.alloc o).cell? ⟨w.heap.size, 1, none⟩ = some (.int .i64 0) := fun o => (cell_of_block (hX2 o) 1).trans rfl
      have f0 : ∀ o, (w1.alloc o).frozen? ⟨w.heap.size, 0, none⟩ = false := fun o => frozen_of_block (hX2 o) 0
      have f1 : ∀ o, (w1.alloc o).frozen? ⟨w.heap.size, 1, none⟩ = false := fun o => frozen_of_block (hX2 o) 1
      have HE := Lib.hid (RowC.empty (w := w1) rfl (Nat.le_refl _))
      clear hb1 hX1 hX2
      go_wp2_with fail
      refine bodyPost_ret (v := .tuple #[.slice (some ⟨w1.heap.size, 0, none⟩) 0 0, .agg #[.int .i64 0, .int .i64 0], .bool false]) (by simp [results, Tryd.results11, go_sem, x0, x1]) rfl ⟨_, _, _, rfl, ?_, ?_⟩
      · exact ((HE.out.setLow (by omega)).setLow (by omega)).mono (by omega)
      · exact ((hbb.alloc (by omega) _).setCell (Nat.le_refl _) _).setCell (Nat.le_refl _) _
    | true =>
      rw [hB] at hval hgood
      have HV := Lib.hid hval
      by_cases h0 : v < 0
      · have t1 : decide (v < 0) = true := decide_eq_true h0
        clear hval hB hgood hq
        go_enter Tryd.func11, Tryd.ntmps11
        go_wp2_with fail
        refine HV.out.mono ?_
        rintro E w1 ⟨rfl, hb1⟩
        rw [HZ.out] at hb1
        obtain ⟨hbb, hX1, hz1⟩ := (HFIN.out w1 hb1).out
        have hX2 : ∀ o, (w1.alloc o).heap[w.heap.size]? = some (.cells #[.int .i64 0, .int .i64 0] 26 (0, 0)) := fun o => (Below.heap_alloc _ _ _ (by omega)).trans hX1
        have x0 : ∀ o, (w1.alloc o).cell? ⟨w.heap.size, 0, none⟩ = some (.int .i64 0) := fun o => (cell_of_block (hX2 o) 0).trans rfl
        have x1 : ∀ o, (w1.alloc o).cell? ⟨w.heap.size, 1, none⟩ = some (.int .i64 0) := fun o => (cell_of_block (hX2 o) 1).trans rfl
        have f0 : ∀ o, (w1.alloc o).frozen? ⟨w.heap.size, 0, none⟩ = false := fun o => frozen_of_block (hX2 o) 0
        have f1 : ∀ o, (w1.alloc o).frozen? ⟨w.heap.size, 1, none⟩ = false := fun o => frozen_of_block (hX2 o) 1
        have HE := Lib.hid (RowC.empty (w := w1) rfl (Nat.le_refl _))
        clear hb1 hX1 hX2
        go_wp2_with fail
        refine bodyPost_ret (v := .tuple #[.slice (some ⟨w1.heap.size, 0, none⟩) 0 0, .agg #[.int .i64 0, .int .i64 0], .bool false]) (by simp [results, Tryd.results11, go_sem, x0, x1]) rfl ⟨_, _, _, rfl, ?_, ?_⟩
        · exact ((HE.out.setLow (by omega)).setLow (by omega)).mono (by omega)
        · exact ((hbb.alloc (by omega) _).setCell (Nat.le_refl _) _).setCell (Nat.le_refl _) _
      · have t1 : decide (v < 0) = false := decide_eq_false h0
        by_cases h9 : 9 < v
        · have t2 : decide (9 < v) = true := decide_eq_true h9
          clear hval hB hgood hq
          go_enter Tryd.func11, Tryd.ntmps11
          go_wp2_with fail
          refine HV.out.mono ?_
          rintro E w1 ⟨rfl, hb1⟩
          rw [HZ.out] at hb1
          obtain ⟨hbb, hX1, hz1⟩ := (HFIN.out w1 hb1).out
          have hX2 : ∀ o, (w1.alloc o).heap[w.heap.size]? = some (.cells #[.int .i64 0, .int .i64 0] 26 (0, 0)) := fun o => (Below.heap_alloc _ _ _ (by omega)).trans hX1
          have x0 : ∀ o, (w1.alloc o).cell? ⟨w.heap.size, 0, none⟩ = some (.int .i64 0) := fun o => (cell_of_block (hX2 o) 0).trans rfl
          have x1 : ∀ o, (w1.alloc o).cell? ⟨w.heap.size, 1, none⟩ = some (.int .i64 0) := fun o => (cell_of_block (hX2 o) 1).trans rfl
          have f0 : ∀ o, (w1.alloc o).frozen? ⟨w.heap.size, 0, none⟩ = false := fun o => frozen_of_block (hX2 o) 0
          have f1 : ∀ o, (w1.alloc o).frozen? ⟨w.heap.size, 1, none⟩ = false := fun o => frozen_of_block (hX2 o) 1
          have HE := Lib.hid (RowC.empty (w := w1) rfl (Nat.le_refl _))
          clear hb1 hX1 hX2
          go_wp2_with fail
          refine bodyPost_ret (v := .tuple #[.slice (some ⟨w1.heap.size, 0, none⟩) 0 0, .agg #[.int .i64 0, .int .i64 0], .bool false]) (by simp [results, Tryd.results11, go_sem, x0, x1]) rfl ⟨_, _, _, rfl, ?_, ?_⟩
          · exact ((HE.out.setLow (by omega)).setLow (by omega)).mono (by omega)
          · exact ((hbb.alloc (by omega) _).setCell (Nat.le_refl _) _).setCell (Nat.le_refl _) _
        · have t2 : decide (9 < v) = false := decide_eq_false h9
          have hq200 : q = 200 := by
            have h8 := (memB_out hB).1
            rw [← hq] at h8
            rcases Nat.lt_or_ge q 200 with h | h
            · exact absurd ⟨rfl, by omega, by omega, h⟩ hgood
            · omega
          have t3 : ((q : Int) == 200) = true := by simp; omega
          clear hval hB hgood hq hq200
          go_enter Tryd.func11, Tryd.ntmps11
          go_wp2_with fail
          refine HV.out.mono ?_
          rintro E w1 ⟨rfl, hb1⟩
          rw [HZ.out] at hb1
          obtain ⟨hbb, hX1, hz1⟩ := (HFIN.out w1 hb1).out
          have hX2 : ∀ o, (w1.alloc o).heap[w.heap.size]? = some (.cells #[.int .i64 0, .int .i64 0] 26 (0, 0)) := fun o => (Below.heap_alloc _ _ _ (by omega)).trans hX1
          have x0 : ∀ o, (w1.alloc o).cell? ⟨w.heap.size, 0, none⟩ = some (.int .i64 0) := fun o => (cell_of_block (hX2 o) 0).trans rfl
          have x1 : ∀ o, (w1.alloc o).cell? ⟨w.heap.size, 1, none⟩ = some (.int .i64 0) := fun o => (cell_of_block (hX2 o) 1).trans rfl
          have f0 : ∀ o, (w1.alloc o).frozen? ⟨w.heap.size, 0, none⟩ = false := fun o => frozen_of_block (hX2 o) 0
          have f1 : ∀ o, (w1.alloc o).frozen? ⟨w.heap.size, 1, none⟩ = false := fun o => frozen_of_block (hX2 o) 1
          have HE := Lib.hid (RowC.empty (w := w1) rfl (Nat.le_refl _))
          clear hb1 hX1 hX2
          go_wp2_with fail
          refine bodyPost_ret (v := .tuple #[.slice (some ⟨w1.heap.size, 0, none⟩) 0 0, .agg #[.int .i64 0, .int .i64 0], .bool false]) (by simp [results, Tryd.results11, go_sem, x0, x1]) rfl ⟨_, _, _, rfl, ?_, ?_⟩
          · exact ((HE.out.setLow (by omega)).setLow (by omega)).mono (by omega)
          · exact ((hbb.alloc (by omega) _).setCell (Nat.le_refl _) _).setCell (Nat.le_refl _) _

end Go.Proofs.YtboadhlhpnbpiaaDoor
