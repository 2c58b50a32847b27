/-
  The program's ShareCell, over what share does to the memory.
-/
import Derived.Test.YtfkoobdlhdolbaaDoorAccP
namespace Go.Proofs.YtfkoobdlhdolbaaDoor
open Go.RowKit Go.Deep
set_option linter.unusedVariables false

set_option maxRecDepth 100000 in
set_option maxHeartbeats 1000000 in
theorem cloS_any (v : Value) (a b r B Bm : Nat) (x t z0 z1 a0 a1 : Int) (m2 : List CellD) (ev : Value) (w : World) (ha : w.cell? ⟨a, 0, none⟩ = some (.func (.func 57) #[] #[])) (h0 : w.cell? ⟨b, 0, none⟩ = some (.int .i64 x)) (h1 : w.cell? ⟨b, 1, none⟩ = some (.int .i64 t))
    (hr : w.heap[r]? = some (.cells #[.int .i64 z0, .int .i64 z1] 25 (0, 0))) (hBr : B ≤ r) (hrm : r < Bm)
    (hc : Calls Tryd.prog 57 #[v, .agg #[.int .i64 x, .int .i64 t]] w (ResPost w Bm m2 (.agg #[.int .i64 a0, .int .i64 a1]) ev)) :
    Calls Tryd.prog 83 #[v, .pointer (some ⟨a, 0, none⟩), .pointer (some ⟨b, 0, none⟩), .pointer (some ⟨r, 0, none⟩)] w (CloPost w B Bm r (.cells #[.int .i64 a0, .int .i64 a1] 25 (0, 0)) m2 ev) := by
  have HC := Lib.hid hc
  have HR := Lib.hid hr
  clear hc hr
  go_enter Tryd.func83, Tryd.ntmps83
  go_wp2_with fail
  refine HC.out.mono ?_
  rintro E w2 ⟨v2, rfl, hM, hb⟩
  have hr2 := (hb.block r (heap_lt HR.out)).trans HR.out
  have hq0 := (cell_of_block hr2 0).trans (show _ = some (.int .i64 z0) from rfl)
  have hq1 := (cell_of_block hr2 1).trans (show _ = some (.int .i64 z1) from rfl)
  have hf0 := frozen_of_block hr2 0
  have hf1 := frozen_of_block hr2 1
  have hr3 : ((w2.setCell ⟨r, 0, none⟩ (.int .i64 a0)).setCell ⟨r, 1, none⟩ (.int .i64 a1)).heap[r]? = some (.cells #[.int .i64 a0, .int .i64 a1] 25 (0, 0)) := set_keeps (set_keeps hr2 0 _) 1 _
  have hM3 : RowM ((w2.setCell ⟨r, 0, none⟩ (.int .i64 a0)).setCell ⟨r, 1, none⟩ (.int .i64 a1)) Bm v2 m2 := (hM.setType hr2 (by decide) hrm).setType (set_keeps hr2 0 _) (by decide) hrm
  have hb3 : Below B w ((w2.setCell ⟨r, 0, none⟩ (.int .i64 a0)).setCell ⟨r, 1, none⟩ (.int .i64 a1)) := ((hb.mono (Nat.le_trans hBr (Nat.le_of_lt (heap_lt HR.out)))).setCell hBr _).setCell hBr _
  have HP := Lib.hid hr3
  have HM := Lib.hid hM3
  have HB := Lib.hid hb3
  clear ha h0 h1 HC hr2 hM hb hr3 hM3 hb3
  go_wp2_with fail
  exact bodyPost_ret (v := .tuple #[v2, ev]) (by simp [results, Tryd.results83, go_sem]) rfl ⟨v2, rfl, HM.out, HB.out, HP.out⟩

set_option maxRecDepth 100000 in
set_option maxHeartbeats 2000000 in
theorem accessedS_gen (m2 : List CellD) (A : Option Addr) (q c : Nat) (x t a0 a1 k : Int) (w : World)
    (hc : ∀ w1 b1 b2 b3, Below w.heap.size w w1 → w1.heap[w.heap.size]? = some (.cells #[.int .i64 x, .int .i64 t] 25) → w1.heap[w.heap.size + 1]? = some (.cells #[.func (.func 57) #[] #[]] 73) → w1.heap[w.heap.size + 3]? = some (.cells #[.int .i64 0, .int .i64 0] 25) → w1.heap.size = w.heap.size + 4 → b1 = .pointer (some ⟨w.heap.size + 1, 0, none⟩) → b2 = .pointer (some ⟨w.heap.size, 0, none⟩) → b3 = .pointer (some ⟨w.heap.size + 3, 0, none⟩) →
      Calls Tryd.prog 52 #[.slice A q c, .func (.func 83) #[] #[b1, b2, b3]] w1 (AccPost w1 (w.heap.size + 3) (w.heap.size + 3) (.cells #[.int .i64 a0, .int .i64 a1] 25 (0, 0)) m2 k)) :
    Calls Tryd.prog 56 #[.slice A q c, .agg #[.int .i64 x, .int .i64 t], .func (.func 57) #[] #[]] w (PtrPost w m2 a0 a1 k) := by
  have hb0 := ((((Below.refl w.heap.size w).alloc (Nat.le_refl _) (.cells #[.int .i64 x, .int .i64 t] 25)).alloc (by simp) (.cells #[.func (.func 57) #[] #[]] 73)).alloc (by simp; omega) (.cells #[.int .i64 0, .int .i64 0] 25)).alloc (by simp; omega) (.cells #[.int .i64 0, .int .i64 0] 25)
  have h0 : ((((w.alloc (.cells #[.int .i64 x, .int .i64 t] 25)).alloc (.cells #[.func (.func 57) #[] #[]] 73)).alloc (.cells #[.int .i64 0, .int .i64 0] 25)).alloc (.cells #[.int .i64 0, .int .i64 0] 25)).heap[w.heap.size]? = some (.cells #[.int .i64 x, .int .i64 t] 25) := (Below.heap_alloc _ _ _ (by simp <;> omega)).trans (three_0 w _ _ _)
  have h1 : ((((w.alloc (.cells #[.int .i64 x, .int .i64 t] 25)).alloc (.cells #[.func (.func 57) #[] #[]] 73)).alloc (.cells #[.int .i64 0, .int .i64 0] 25)).alloc (.cells #[.int .i64 0, .int .i64 0] 25)).heap[w.heap.size + 1]? = some (.cells #[.func (.func 57) #[] #[]] 73) := (Below.heap_alloc _ _ _ (by simp <;> omega)).trans (three_1 w _ _ _)
  have h2 : ((((w.alloc (.cells #[.int .i64 x, .int .i64 t] 25)).alloc (.cells #[.func (.func 57) #[] #[]] 73)).alloc (.cells #[.int .i64 0, .int .i64 0] 25)).alloc (.cells #[.int .i64 0, .int .i64 0] 25)).heap[w.heap.size + 2]? = some (.cells #[.int .i64 0, .int .i64 0] 25) := (Below.heap_alloc _ _ _ (by simp <;> omega)).trans (three_2 w _ _ _)
  have h3 : ((((w.alloc (.cells #[.int .i64 x, .int .i64 t] 25)).alloc (.cells #[.func (.func 57) #[] #[]] 73)).alloc (.cells #[.int .i64 0, .int .i64 0] 25)).alloc (.cells #[.int .i64 0, .int .i64 0] 25)).heap[w.heap.size + 3]? = some (.cells #[.int .i64 0, .int .i64 0] 25) := by
    have h := heap_alloc_new (((w.alloc (.cells #[.int .i64 x, .int .i64 t] 25)).alloc (.cells #[.func (.func 57) #[] #[]] 73)).alloc (.cells #[.int .i64 0, .int .i64 0] 25)) (.cells #[.int .i64 0, .int .i64 0] 25)
    rw [World.size_alloc, World.size_alloc, World.size_alloc] at h
    exact h
  have HC := Lib.hid (hc _ _ _ _ hb0 h0 h1 h3 (by simp) rfl rfl rfl)
  have HB0 := Lib.hid hb0
  have HX2 := Lib.hid h2
  have hz : ((((w.alloc (.cells #[.int .i64 x, .int .i64 t] 25)).alloc (.cells #[.func (.func 57) #[] #[]] 73)).alloc (.cells #[.int .i64 0, .int .i64 0] 25)).alloc (.cells #[.int .i64 0, .int .i64 0] 25)).heap.size = w.heap.size + 4 := by simp
  have HZ := Lib.hid hz
  clear hc hb0 h0 h1 h2 h3 hz
  go_enter Tryd.func56, Tryd.ntmps56
  go_wp2_with fail
  refine HC.out.mono ?_
  rintro E w2 ⟨A2, n2, c2, rfl, hR, hb, hr⟩
  have hz := HZ.out
  have hs := hb.size
  have hx2 := (hb.block (w.heap.size + 2) (by omega)).trans HX2.out
  have hR2 := hR.mono (show w.heap.size + 3 ≤ ((((w.alloc (.cells #[.int .i64 x, .int .i64 t] 25)).alloc (.cells #[.func (.func 57) #[] #[]] 73)).alloc (.cells #[.int .i64 0, .int .i64 0] 25)).alloc (.cells #[.int .i64 0, .int .i64 0] 25)).heap.size by omega)
  have HR := Lib.hid hR2
  have HBF := Lib.hid (HB0.out.trans (hb.mono (show w.heap.size ≤ w.heap.size + 3 by omega)))
  have HX := Lib.hid hx2
  clear hR hR2 hb HC hs hz
  go_wp2_with fail
  have z0 := (cell_of_block HX.out 0).trans (show _ = some (.int .i64 0) from rfl)
  have z1 := (cell_of_block HX.out 1).trans (show _ = some (.int .i64 0) from rfl)
  have hP0 : PairK (w.heap.size + 1 + 1) (w.heap.size + 3) (.int .i64 a0) (.int .i64 a1) w2 := ⟨(cell_of_block hr 0).trans rfl, (cell_of_block hr 1).trans rfl, by unfold held; rw [z0]; rfl, by unfold held; rw [z1]; rfl, frozen_of_block HX.out 0, frozen_of_block HX.out 1⟩
  have hP1 : PairK (w.heap.size + 1 + 1) (w.heap.size + 3) (.int .i64 a0) (.int .i64 a1) w2.drew := hP0
  have hnm : ¬ w.heap.size + 1 + 1 = w.heap.size + 3 := by omega
  clear z0 z1 hx2 hr
  go_region_held3 (PairK (w.heap.size + 1 + 1) (w.heap.size + 3) (.int .i64 a0) (.int .i64 a1))
    (first | with_reducible exact hP1 | exact pairK_store hnm hP0 _ _)
    (fail)
  obtain ⟨e0, e1⟩ := ptr_store (n := w.heap.size + 1 + 1) HX.out (.int .i64 a0) (.int .i64 a1)
  have HR3 := Lib.hid (((HR.out.setLow (o := 0) (x := .int .i64 a0) (show w.heap.size + 1 + 1 < w.heap.size + 3 by omega)).setLow (o := 1) (x := .int .i64 a1) (show w.heap.size + 1 + 1 < w.heap.size + 3 by omega)).mono (show w.heap.size ≤ w.heap.size + 3 by omega))
  have hb5 : Below w.heap.size w ((w2.setCell ⟨w.heap.size + 1 + 1, 0, none⟩ (.int .i64 a0)).setCell ⟨w.heap.size + 1 + 1, 1, none⟩ (.int .i64 a1)) := (HBF.out.setCell (by show w.heap.size ≤ w.heap.size + 1 + 1; omega) _).setCell (by show w.heap.size ≤ w.heap.size + 1 + 1; omega) _
  clear ‹PairK _ _ _ _ (World.drew (World.setCell _ _ _))› hP0 hP1 HR HBF HX HB0 HX2 HZ
  generalize (w2.setCell ⟨w.heap.size + 1 + 1, 0, none⟩ (.int .i64 a0)).setCell ⟨w.heap.size + 1 + 1, 1, none⟩ (.int .i64 a1) = w5 at *
  go_wp2_with fail
  exact bodyPost_ret (v := .tuple #[.slice A2 n2 c2, .agg #[.int .i64 a0, .int .i64 a1], .int .i64 k]) (by simp [results, Tryd.results56, go_sem, e0, e1]) rfl ⟨_, _, _, rfl, by first | exact HR3.out | exact HR3.out.below (Below.refl _ _).drew, by first | exact hb5 | exact hb5.drew⟩

theorem accessedS_good (cs m2 : List CellD) (A : Option Addr) (q c : Nat) (x t a0 a1 : Int) (ev : Value) (k : Int) (w : World) (h : RdC w (.slice A q c) cs) (hl : cs.length + tagSum cs ≤ 1048590) (hl2 : m2.length + tagSum m2 ≤ 1048600) (hB : memB cs = true)
    (hcl : ∀ w1 A1 c1 Bm, Below w.heap.size w w1 → Bm ≤ w1.heap.size → RowM w1 Bm (.slice A1 cs.length c1) cs → Calls Tryd.prog 57 #[.slice A1 cs.length c1, .agg #[.int .i64 x, .int .i64 t]] w1 (ResPost w1 Bm m2 (.agg #[.int .i64 a0, .int .i64 a1]) ev))
    (hcode : ∀ w1, Below w.heap.size w w1 → Calls Tryd.prog 81 #[ev] w1 fun E w' => E = .returned (.int .i64 k) ∧ w' = w1) :
    Calls Tryd.prog 56 #[.slice A q c, .agg #[.int .i64 x, .int .i64 t], .func (.func 57) #[] #[]] w (PtrPost w m2 a0 a1 k) := by
  refine accessedS_gen m2 A q c x t a0 a1 k w fun w1 b1 b2 b3 hb h0 h1 h3 hz e1 e2 e3 => ?_
  subst e1 e2 e3
  refine changed_accP cs m2 A q c (w.heap.size + 3) (w.heap.size + 3) _ _ _ _ ev k w1 (h.below hb) hl hl2 hB (by omega) (fun w2 A1 c1 hb2 hM => ?_) (fun w2 hb2 => hcode w2 (hb.trans (hb2.mono (by omega))))
  have g0 := (hb2.block w.heap.size (by omega)).trans h0
  have g1 := (hb2.block (w.heap.size + 1) (by omega)).trans h1
  have g3 := (hb2.block (w.heap.size + 3) (by omega)).trans h3
  exact cloS_any _ _ _ _ (w.heap.size + 3) w1.heap.size x t 0 0 a0 a1 m2 ev w2 ((cell_of_block g1 0).trans rfl) ((cell_of_block g0 0).trans rfl) ((cell_of_block g0 1).trans rfl) g3 (Nat.le_refl _) (by omega) (hcl w2 A1 c1 w1.heap.size (hb.trans (hb2.mono hb.size)) hb2.size hM)

theorem accessedS_bad (cs : List CellD) (A : Option Addr) (q c : Nat) (x t : Int) (w : World) (h : RdC w (.slice A q c) cs) (hl : cs.length + tagSum cs ≤ 1048590) (hB : memB cs = false) :
    Calls Tryd.prog 56 #[.slice A q c, .agg #[.int .i64 x, .int .i64 t], .func (.func 57) #[] #[]] w (PtrPost w cs 0 0 4) := by
  refine accessedS_gen cs A q c x t 0 0 4 w fun w1 b1 b2 b3 hb h0 h1 h3 hz e1 e2 e3 => ?_
  refine (changed_bad cs A q c _ w1 (h.below hb) hl hB).mono ?_
  rintro E w2 ⟨A2, n2, c2, rfl, hR, hb2⟩
  exact ⟨A2, n2, c2, rfl, hR, hb2.mono (by omega), (hb2.block (w.heap.size + 3) (by omega)).trans h3⟩

set_option maxRecDepth 100000 in
set_option maxHeartbeats 1000000 in
theorem implShareCell_of (m2 : List CellD) (A : Option Addr) (q c : Nat) (x t a0 a1 k : Int) (w : World)
    (hc : ∀ w1, Below w.heap.size w w1 → Calls Tryd.prog 56 #[.slice A q c, .agg #[.int .i64 x, .int .i64 t], .func (.func 57) #[] #[]] w1 (PtrPost w1 m2 a0 a1 k)) :
    Calls Tryd.prog 24 #[.slice A q c, .agg #[.int .i64 x, .int .i64 t]] w (PtrPost w m2 a0 a1 k) := by
  have hb0 := ((Below.refl w.heap.size w).alloc (Nat.le_refl _) (.cells #[.int .i64 x, .int .i64 t] 25)).alloc (by simp) (.cells #[.int .i64 0, .int .i64 0] 25)
  have hX0 := alloc2_first w (.cells #[.int .i64 x, .int .i64 t] 25) (.cells #[.int .i64 0, .int .i64 0] 25)
  have hX1 := alloc2_second w (.cells #[.int .i64 x, .int .i64 t] 25) (.cells #[.int .i64 0, .int .i64 0] 25)
  have hc0 : ((w.alloc (.cells #[.int .i64 x, .int .i64 t] 25)).alloc (.cells #[.int .i64 0, .int .i64 0] 25)).cell? ⟨w.heap.size, 0, none⟩ = some (.int .i64 x) := (cell_of_block hX0 0).trans rfl
  have hc1 : ((w.alloc (.cells #[.int .i64 x, .int .i64 t] 25)).alloc (.cells #[.int .i64 0, .int .i64 0] 25)).cell? ⟨w.heap.size, 1, none⟩ = some (.int .i64 t) := (cell_of_block hX0 1).trans rfl
  have hz : ((w.alloc (.cells #[.int .i64 x, .int .i64 t] 25)).alloc (.cells #[.int .i64 0, .int .i64 0] 25)).heap.size = w.heap.size + 2 := by simp
  have HC := Lib.hid (hc _ hb0)
  have HB0 := Lib.hid hb0
  have HX1 := Lib.hid hX1
  have HZ := Lib.hid hz
  clear hc hb0 hX0 hX1 hz
  go_enter Tryd.func24, Tryd.ntmps24
  go_wp2_with fail
  refine HC.out.mono ?_
  rintro E w2 ⟨A2, n2, c2, rfl, hR, hb⟩
  have hz := HZ.out
  have hy := (hb.block (w.heap.size + 1) (by omega)).trans HX1.out
  have x0 := (cell_of_block hy 0).trans (show _ = some (.int .i64 0) from rfl)
  have x1 := (cell_of_block hy 1).trans (show _ = some (.int .i64 0) from rfl)
  have f0 := frozen_of_block hy 0
  have f1 := frozen_of_block hy 1
  obtain ⟨e0, e1⟩ := ptr_store hy (.int .i64 a0) (.int .i64 a1)
  have HR := Lib.hid (((hR.mono (show w.heap.size + 2 ≤ ((w.alloc (.cells #[.int .i64 x, .int .i64 t] 25)).alloc (.cells #[.int .i64 0, .int .i64 0] 25)).heap.size by omega)).setLow (o := 0) (x := .int .i64 a0) (show w.heap.size + 1 < w.heap.size + 2 by omega)).setLow (o := 1) (x := .int .i64 a1) (show w.heap.size + 1 < w.heap.size + 2 by omega))
  have HBF : Hid (Below w.heap.size w ((w2.setCell ⟨w.heap.size + 1, 0, none⟩ (.int .i64 a0)).setCell ⟨w.heap.size + 1, 1, none⟩ (.int .i64 a1))) := ((HB0.out.trans (hb.mono (by omega))).setCell (by simp) _).setCell (by simp) _
  clear hR hb HC hz hy hc0 hc1
  go_wp2_with fail
  exact bodyPost_ret (v := .tuple #[.slice A2 n2 c2, .agg #[.int .i64 a0, .int .i64 a1], .int .i64 k]) (by simp [results, Tryd.results24, go_sem, e0, e1]) rfl ⟨_, _, _, rfl, HR.out.mono (by omega), HBF.out⟩

end Go.Proofs.YtfkoobdlhdolbaaDoor
