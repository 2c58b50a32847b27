/-
  The program's BorrowCell answers as the pure model's.
-/
import Derived.Test.YtfkoobdlhdolbaaDoorWtg
import Derived.Test.YtfkoobdlhdolbaaDoorAft4
import Derived.Test.YtfkoobdlhdolbaaDoorAccP
import Derived.Test.YtfkoobdlhdolbaaDoorUpT
namespace Go.Proofs.YtfkoobdlhdolbaaDoor
open Go.RowKit Go.Deep
set_option linter.unusedVariables false

set_option maxRecDepth 100000 in
set_option maxHeartbeats 1000000 in
theorem borrow_err (v : Value) (x t : Int) (w : World) (T : TypeId) (u : Value) (hr : ∀ w1, Below w.heap.size w w1 → Calls Tryd.prog 82 #[v, .agg #[.int .i64 x, .int .i64 t]] w1 fun E w' => E = .returned (.tuple #[.agg #[.int .i64 0, .bool false, .int .i64 0, .pointer none], .iface T u]) ∧ Below w1.heap.size w1 w') :
    Calls Tryd.prog 59 #[v, .agg #[.int .i64 x, .int .i64 t]] w fun E w' => E = .returned (.tuple #[v, .agg #[.int .i64 0, .int .i64 0], .iface T u]) ∧ Below w.heap.size w w' := by
  have hb0 := ((Below.refl w.heap.size w).alloc (Nat.le_refl _) (.cells #[.int .i64 x, .int .i64 t] 25)).alloc (by simp) (.cells #[.int .i64 0, .int .i64 0] 25)
  have hX0 := alloc2_first w (.cells #[.int .i64 x, .int .i64 t] 25) (.cells #[.int .i64 0, .int .i64 0] 25)
  have hX1 := alloc2_second w (.cells #[.int .i64 x, .int .i64 t] 25) (.cells #[.int .i64 0, .int .i64 0] 25)
  have hc0 : ((w.alloc (.cells #[.int .i64 x, .int .i64 t] 25)).alloc (.cells #[.int .i64 0, .int .i64 0] 25)).cell? ⟨w.heap.size, 0, none⟩ = some (.int .i64 x) := (cell_of_block hX0 0).trans rfl
  have hc1 : ((w.alloc (.cells #[.int .i64 x, .int .i64 t] 25)).alloc (.cells #[.int .i64 0, .int .i64 0] 25)).cell? ⟨w.heap.size, 1, none⟩ = some (.int .i64 t) := (cell_of_block hX0 1).trans rfl
  have hz : ((w.alloc (.cells #[.int .i64 x, .int .i64 t] 25)).alloc (.cells #[.int .i64 0, .int .i64 0] 25)).heap.size = w.heap.size + 2 := by simp
  have HR := Lib.hid (hr _ hb0)
  have HB0 := Lib.hid hb0
  have HX0 := Lib.hid hX0
  have HX1 := Lib.hid hX1
  have HZ := Lib.hid hz
  clear hr hb0 hX0 hX1 hz
  go_enter Tryd.func59, Tryd.ntmps59
  go_wp2_with fail
  refine HR.out.mono ?_
  rintro E w2 ⟨rfl, hb⟩
  have hz := HZ.out
  have hs := hb.size
  have hbb : Below w.heap.size w (w2.alloc (.cells #[.int .i64 0, .bool false, .int .i64 0, .pointer none] 96)) := (HB0.out.trans (hb.mono (by omega))).alloc (by omega) _
  have hy : (w2.alloc (.cells #[.int .i64 0, .bool false, .int .i64 0, .pointer none] 96)).heap[w.heap.size + 1]? = some (.cells #[.int .i64 0, .int .i64 0] 25 (0, 0)) := (Below.heap_alloc _ _ _ (by omega)).trans ((hb.block (w.heap.size + 1) (by omega)).trans HX1.out)
  have x0 := (cell_of_block hy 0).trans (show _ = some (.int .i64 0) from rfl)
  have x1 := (cell_of_block hy 1).trans (show _ = some (.int .i64 0) from rfl)
  have f0 := frozen_of_block hy 0
  have f1 := frozen_of_block hy 1
  obtain ⟨e0, e1⟩ := ptr_store hy (.int .i64 0) (.int .i64 0)
  have HBB := Lib.hid hbb
  clear hb hy hbb hs hz hc0 hc1 HR
  go_wp2_with fail
  exact bodyPost_ret (v := .tuple #[v, .agg #[.int .i64 0, .int .i64 0], .iface T u]) (by simp [results, Tryd.results59, go_sem, e0, e1]) rfl ⟨rfl, (HBB.out.setCell (by simp) _).setCell (by simp) _⟩

set_option maxRecDepth 100000 in
set_option maxHeartbeats 2000000 in
theorem borrow_gen (v : Value) (x t a0 a1 : Int) (d : CellD) (ev : Value) (ts : List TagD) (Q : Value → World → Prop) (w : World)
    (hr : ∀ w1, Below w.heap.size w w1 → Calls Tryd.prog 82 #[v, .agg #[.int .i64 x, .int .i64 t]] w1 fun E w' => ∃ p, E = .returned (.tuple #[.agg #[.int .i64 d.val, .bool true, .int .i64 d.next, .pointer p], .nilIface]) ∧ Stk w' w'.heap.size ts.reverse p ∧ Below w1.heap.size w1 w')
    (ht : ∀ w1 p, Below w.heap.size w w1 → w.heap.size + 2 ≤ w1.heap.size → Stk w1 w1.heap.size ts.reverse p → Calls Tryd.prog 84 #[v, .int .i64 x, .agg #[.int .i64 d.val, .bool true, .int .i64 d.next, .pointer p], .bool true] w1 fun E w' => ∃ v', E = .returned (.tuple #[v', .agg #[.int .i64 a0, .int .i64 a1], ev]) ∧ Q v' w' ∧ Below w1.heap.size w1 w')
    (hQ : ∀ v' w' a b, w'.heap[w.heap.size + 1]? = some (.cells #[.int .i64 0, .int .i64 0] 25 (0, 0)) → Q v' w' → Q v' ((w'.setCell ⟨w.heap.size + 1, 0, none⟩ a).setCell ⟨w.heap.size + 1, 1, none⟩ b)) :
    Calls Tryd.prog 59 #[v, .agg #[.int .i64 x, .int .i64 t]] w fun E w' => ∃ v', E = .returned (.tuple #[v', .agg #[.int .i64 a0, .int .i64 a1], ev]) ∧ Q v' w' ∧ Below w.heap.size w w' := by
  have hb0 := ((Below.refl w.heap.size w).alloc (Nat.le_refl _) (.cells #[.int .i64 x, .int .i64 t] 25)).alloc (by simp) (.cells #[.int .i64 0, .int .i64 0] 25)
  have hX0 := alloc2_first w (.cells #[.int .i64 x, .int .i64 t] 25) (.cells #[.int .i64 0, .int .i64 0] 25)
  have hX1 := alloc2_second w (.cells #[.int .i64 x, .int .i64 t] 25) (.cells #[.int .i64 0, .int .i64 0] 25)
  have hc0 : ((w.alloc (.cells #[.int .i64 x, .int .i64 t] 25)).alloc (.cells #[.int .i64 0, .int .i64 0] 25)).cell? ⟨w.heap.size, 0, none⟩ = some (.int .i64 x) := (cell_of_block hX0 0).trans rfl
  have hc1 : ((w.alloc (.cells #[.int .i64 x, .int .i64 t] 25)).alloc (.cells #[.int .i64 0, .int .i64 0] 25)).cell? ⟨w.heap.size, 1, none⟩ = some (.int .i64 t) := (cell_of_block hX0 1).trans rfl
  have hz : ((w.alloc (.cells #[.int .i64 x, .int .i64 t] 25)).alloc (.cells #[.int .i64 0, .int .i64 0] 25)).heap.size = w.heap.size + 2 := by simp
  have HR := Lib.hid (hr _ hb0)
  have HB0 := Lib.hid hb0
  have HX0 := Lib.hid hX0
  have HX1 := Lib.hid hX1
  have HZ := Lib.hid hz
  have HT := Lib.hid ht
  have HQ := Lib.hid hQ
  clear hr hb0 hX0 hX1 hz ht hQ
  go_enter Tryd.func59, Tryd.ntmps59
  go_wp2_with fail
  refine HR.out.mono ?_
  rintro E w2 ⟨p, rfl, hst, hb⟩
  have hz := HZ.out
  have hs := hb.size
  have hba := (Below.refl w2.heap.size w2).alloc (Nat.le_refl _) (.cells #[.int .i64 d.val, .bool true, .int .i64 d.next, .pointer p] 96)
  have hbb : Below w.heap.size w (w2.alloc (.cells #[.int .i64 d.val, .bool true, .int .i64 d.next, .pointer p] 96)) := (HB0.out.trans (hb.mono (by omega))).alloc (by omega) _
  have hN := (hba.block w.heap.size (by omega)).trans ((hb.block w.heap.size (by omega)).trans HX0.out)
  have hy := (hba.block (w.heap.size + 1) (by omega)).trans ((hb.block (w.heap.size + 1) (by omega)).trans HX1.out)
  have hP := heap_alloc_new w2 (.cells #[.int .i64 d.val, .bool true, .int .i64 d.next, .pointer p] 96)
  have hst2 := (hst.below hba (Nat.le_refl _)).mono hba.size
  have hle : w.heap.size + 2 ≤ (w2.alloc (.cells #[.int .i64 d.val, .bool true, .int .i64 d.next, .pointer p] 96)).heap.size := by rw [World.size_alloc]; omega
  have HS := Lib.hid (HT.out _ p hbb hle hst2)
  have HBB := Lib.hid hbb
  have HY := Lib.hid hy
  have HLE := Lib.hid hle
  have HN := Lib.hid hN
  have HP := Lib.hid hP
  clear hb hba hbb hN hy hP hst hst2 hle hs hz hc0 hc1 HR HT
  go_upto_region 4 with fail
  obtain ⟨W1, hW1⟩ : ∃ z, w2.alloc (.cells #[.int .i64 d.val, .bool true, .int .i64 d.next, .pointer p] 96) = z := ⟨_, rfl⟩
  rw [hW1] at HS HBB HY HLE HN HP ⊢
  clear hW1
  have k0 := (cell_of_block HN.out 0).trans (show _ = some (.int .i64 x) from rfl)
  have y0 := (cell_of_block HP.out 0).trans (show _ = some (.int .i64 d.val) from rfl)
  have y1 := (cell_of_block HP.out 1).trans (show _ = some (.bool true) from rfl)
  have y2 := (cell_of_block HP.out 2).trans (show _ = some (.int .i64 d.next) from rfl)
  have y3 := (cell_of_block HP.out 3).trans (show _ = some (.pointer p) from rfl)
  go_wp2_with fail
  refine HS.out.mono ?_
  rintro E w3 ⟨v', rfl, hq, hb3⟩
  have hle := HLE.out
  have hy3 := (hb3.block (w.heap.size + 1) (by omega)).trans HY.out
  have x0 := (cell_of_block hy3 0).trans (show _ = some (.int .i64 0) from rfl)
  have x1 := (cell_of_block hy3 1).trans (show _ = some (.int .i64 0) from rfl)
  have f0 := frozen_of_block hy3 0
  have f1 := frozen_of_block hy3 1
  obtain ⟨e0, e1⟩ := ptr_store hy3 (.int .i64 a0) (.int .i64 a1)
  have HQ3 := Lib.hid (HQ.out v' w3 (.int .i64 a0) (.int .i64 a1) hy3 hq)
  have HBF : Hid (Below w.heap.size w ((w3.setCell ⟨w.heap.size + 1, 0, none⟩ (.int .i64 a0)).setCell ⟨w.heap.size + 1, 1, none⟩ (.int .i64 a1))) := ((HBB.out.trans (hb3.mono (by omega))).setCell (by simp) _).setCell (by simp) _
  clear hq hb3 hle hy3 k0 y0 y1 y2 y3 HQ HS
  go_wp2_with fail
  exact bodyPost_ret (v := .tuple #[v', .agg #[.int .i64 a0, .int .i64 a1], ev]) (by simp [results, Tryd.results59, go_sem, e0, e1]) rfl ⟨v', rfl, HQ3.out, HBF.out⟩

set_option maxRecDepth 100000 in
set_option maxHeartbeats 1000000 in
theorem cloB_any (v : Value) (a b r B Bm : Nat) (x t z0 z1 a0 a1 : Int) (m2 : List CellD) (ev : Value) (w : World) (ha : w.cell? ⟨a, 0, none⟩ = some (.func (.func 59) #[] #[])) (h0 : w.cell? ⟨b, 0, none⟩ = some (.int .i64 x)) (h1 : w.cell? ⟨b, 1, none⟩ = some (.int .i64 t))
    (hr : w.heap[r]? = some (.cells #[.int .i64 z0, .int .i64 z1] 25 (0, 0))) (hBr : B ≤ r) (hrm : r < Bm)
    (hc : Calls Tryd.prog 59 #[v, .agg #[.int .i64 x, .int .i64 t]] w (ResPost w Bm m2 (.agg #[.int .i64 a0, .int .i64 a1]) ev)) :
    Calls Tryd.prog 83 #[v, .pointer (some ⟨a, 0, none⟩), .pointer (some ⟨b, 0, none⟩), .pointer (some ⟨r, 0, none⟩)] w (CloPost w B Bm r (.cells #[.int .i64 a0, .int .i64 a1] 25 (0, 0)) m2 ev) := by
  have HC := Lib.hid hc
  have HR := Lib.hid hr
  clear hc hr
  go_enter Tryd.func83, Tryd.ntmps83
  go_wp2_with fail
  refine HC.out.mono ?_
  rintro E w2 ⟨v2, rfl, hM, hb⟩
  have hr2 := (hb.block r (heap_lt HR.out)).trans HR.out
  have hq0 := (cell_of_block hr2 0).trans (show _ = some (.int .i64 z0) from rfl)
  have hq1 := (cell_of_block hr2 1).trans (show _ = some (.int .i64 z1) from rfl)
  have hf0 := frozen_of_block hr2 0
  have hf1 := frozen_of_block hr2 1
  have hr3 : ((w2.setCell ⟨r, 0, none⟩ (.int .i64 a0)).setCell ⟨r, 1, none⟩ (.int .i64 a1)).heap[r]? = some (.cells #[.int .i64 a0, .int .i64 a1] 25 (0, 0)) := set_keeps (set_keeps hr2 0 _) 1 _
  have hM3 : RowM ((w2.setCell ⟨r, 0, none⟩ (.int .i64 a0)).setCell ⟨r, 1, none⟩ (.int .i64 a1)) Bm v2 m2 := (hM.setType hr2 (by decide) hrm).setType (set_keeps hr2 0 _) (by decide) hrm
  have hb3 : Below B w ((w2.setCell ⟨r, 0, none⟩ (.int .i64 a0)).setCell ⟨r, 1, none⟩ (.int .i64 a1)) := ((hb.mono (Nat.le_trans hBr (Nat.le_of_lt (heap_lt HR.out)))).setCell hBr _).setCell hBr _
  have HP := Lib.hid hr3
  have HM := Lib.hid hM3
  have HB := Lib.hid hb3
  clear ha h0 h1 HC hr2 hM hb hr3 hM3 hb3
  go_wp2_with fail
  exact bodyPost_ret (v := .tuple #[v2, ev]) (by simp [results, Tryd.results83, go_sem]) rfl ⟨v2, rfl, HM.out, HB.out, HP.out⟩

set_option maxRecDepth 100000 in
set_option maxHeartbeats 2000000 in
theorem accessedB_gen (m2 : List CellD) (A : Option Addr) (q c : Nat) (x t a0 a1 k : Int) (w : World)
    (hc : ∀ w1 b1 b2 b3, Below w.heap.size w w1 → w1.heap[w.heap.size]? = some (.cells #[.int .i64 x, .int .i64 t] 25) → w1.heap[w.heap.size + 1]? = some (.cells #[.func (.func 59) #[] #[]] 73) → w1.heap[w.heap.size + 3]? = some (.cells #[.int .i64 0, .int .i64 0] 25) → w1.heap.size = w.heap.size + 4 → b1 = .pointer (some ⟨w.heap.size + 1, 0, none⟩) → b2 = .pointer (some ⟨w.heap.size, 0, none⟩) → b3 = .pointer (some ⟨w.heap.size + 3, 0, none⟩) →
      Calls Tryd.prog 52 #[.slice A q c, .func (.func 83) #[] #[b1, b2, b3]] w1 (AccPost w1 (w.heap.size + 3) (w.heap.size + 3) (.cells #[.int .i64 a0, .int .i64 a1] 25 (0, 0)) m2 k)) :
    Calls Tryd.prog 56 #[.slice A q c, .agg #[.int .i64 x, .int .i64 t], .func (.func 59) #[] #[]] w (PtrPost w m2 a0 a1 k) := by
  have hb0 := ((((Below.refl w.heap.size w).alloc (Nat.le_refl _) (.cells #[.int .i64 x, .int .i64 t] 25)).alloc (by simp) (.cells #[.func (.func 59) #[] #[]] 73)).alloc (by simp; omega) (.cells #[.int .i64 0, .int .i64 0] 25)).alloc (by simp; omega) (.cells #[.int .i64 0, .int .i64 0] 25)
  have h0 : ((((w.alloc (.cells #[.int .i64 x, .int .i64 t] 25)).alloc (.cells #[.func (.func 59) #[] #[]] 73)).alloc (.cells #[.int .i64 0, .int .i64 0] 25)).alloc (.cells #[.int .i64 0, .int .i64 0] 25)).heap[w.heap.size]? = some (.cells #[.int .i64 x, .int .i64 t] 25) := (Below.heap_alloc _ _ _ (by simp <;> omega)).trans (three_0 w _ _ _)
  have h1 : ((((w.alloc (.cells #[.int .i64 x, .int .i64 t] 25)).alloc (.cells #[.func (.func 59) #[] #[]] 73)).alloc (.cells #[.int .i64 0, .int .i64 0] 25)).alloc (.cells #[.int .i64 0, .int .i64 0] 25)).heap[w.heap.size + 1]? = some (.cells #[.func (.func 59) #[] #[]] 73) := (Below.heap_alloc _ _ _ (by simp <;> omega)).trans (three_1 w _ _ _)
  have h2 : ((((w.alloc (.cells #[.int .i64 x, .int .i64 t] 25)).alloc (.cells #[.func (.func 59) #[] #[]] 73)).alloc (.cells #[.int .i64 0, .int .i64 0] 25)).alloc (.cells #[.int .i64 0, .int .i64 0] 25)).heap[w.heap.size + 2]? = some (.cells #[.int .i64 0, .int .i64 0] 25) := (Below.heap_alloc _ _ _ (by simp <;> omega)).trans (three_2 w _ _ _)
  have h3 : ((((w.alloc (.cells #[.int .i64 x, .int .i64 t] 25)).alloc (.cells #[.func (.func 59) #[] #[]] 73)).alloc (.cells #[.int .i64 0, .int .i64 0] 25)).alloc (.cells #[.int .i64 0, .int .i64 0] 25)).heap[w.heap.size + 3]? = some (.cells #[.int .i64 0, .int .i64 0] 25) := by
    have h := heap_alloc_new (((w.alloc (.cells #[.int .i64 x, .int .i64 t] 25)).alloc (.cells #[.func (.func 59) #[] #[]] 73)).alloc (.cells #[.int .i64 0, .int .i64 0] 25)) (.cells #[.int .i64 0, .int .i64 0] 25)
    rw [World.size_alloc, World.size_alloc, World.size_alloc] at h
    exact h
  have HC := Lib.hid (hc _ _ _ _ hb0 h0 h1 h3 (by simp) rfl rfl rfl)
  have HB0 := Lib.hid hb0
  have HX2 := Lib.hid h2
  have hz : ((((w.alloc (.cells #[.int .i64 x, .int .i64 t] 25)).alloc (.cells #[.func (.func 59) #[] #[]] 73)).alloc (.cells #[.int .i64 0, .int .i64 0] 25)).alloc (.cells #[.int .i64 0, .int .i64 0] 25)).heap.size = w.heap.size + 4 := by simp
  have HZ := Lib.hid hz
  clear hc hb0 h0 h1 h2 h3 hz
  go_enter Tryd.func56, Tryd.ntmps56
  go_wp2_with fail
  refine HC.out.mono ?_
  rintro E w2 ⟨A2, n2, c2, rfl, hR, hb, hr⟩
  have hz := HZ.out
  have hs := hb.size
  have hx2 := (hb.block (w.heap.size + 2) (by omega)).trans HX2.out
  have hR2 := hR.mono (show w.heap.size + 3 ≤ ((((w.alloc (.cells #[.int .i64 x, .int .i64 t] 25)).alloc (.cells #[.func (.func 59) #[] #[]] 73)).alloc (.cells #[.int .i64 0, .int .i64 0] 25)).alloc (.cells #[.int .i64 0, .int .i64 0] 25)).heap.size by omega)
  have HR := Lib.hid hR2
  have HBF := Lib.hid (HB0.out.trans (hb.mono (show w.heap.size ≤ w.heap.size + 3 by omega)))
  have HX := Lib.hid hx2
  clear hR hR2 hb HC hs hz
  go_wp2_with fail
  have z0 := (cell_of_block HX.out 0).trans (show _ = some (.int .i64 0) from rfl)
  have z1 := (cell_of_block HX.out 1).trans (show _ = some (.int .i64 0) from rfl)
  have hP0 : PairK (w.heap.size + 1 + 1) (w.heap.size + 3) (.int .i64 a0) (.int .i64 a1) w2 := ⟨(cell_of_block hr 0).trans rfl, (cell_of_block hr 1).trans rfl, by unfold held; rw [z0]; rfl, by unfold held; rw [z1]; rfl, frozen_of_block HX.out 0, frozen_of_block HX.out 1⟩
  have hP1 : PairK (w.heap.size + 1 + 1) (w.heap.size + 3) (.int .i64 a0) (.int .i64 a1) w2.drew := hP0
  have hnm : ¬ w.heap.size + 1 + 1 = w.heap.size + 3 := by omega
  clear z0 z1 hx2 hr
  go_region_held3 (PairK (w.heap.size + 1 + 1) (w.heap.size + 3) (.int .i64 a0) (.int .i64 a1))
    (first | with_reducible exact hP1 | exact pairK_store hnm hP0 _ _)
    (fail)
  obtain ⟨e0, e1⟩ := ptr_store (n := w.heap.size + 1 + 1) HX.out (.int .i64 a0) (.int .i64 a1)
  have HR3 := Lib.hid (((HR.out.setLow (o := 0) (x := .int .i64 a0) (show w.heap.size + 1 + 1 < w.heap.size + 3 by omega)).setLow (o := 1) (x := .int .i64 a1) (show w.heap.size + 1 + 1 < w.heap.size + 3 by omega)).mono (show w.heap.size ≤ w.heap.size + 3 by omega))
  have hb5 : Below w.heap.size w ((w2.setCell ⟨w.heap.size + 1 + 1, 0, none⟩ (.int .i64 a0)).setCell ⟨w.heap.size + 1 + 1, 1, none⟩ (.int .i64 a1)) := (HBF.out.setCell (by show w.heap.size ≤ w.heap.size + 1 + 1; omega) _).setCell (by show w.heap.size ≤ w.heap.size + 1 + 1; omega) _
  clear ‹PairK _ _ _ _ (World.drew (World.setCell _ _ _))› hP0 hP1 HR HBF HX HB0 HX2 HZ
  generalize (w2.setCell ⟨w.heap.size + 1 + 1, 0, none⟩ (.int .i64 a0)).setCell ⟨w.heap.size + 1 + 1, 1, none⟩ (.int .i64 a1) = w5 at *
  go_wp2_with fail
  exact bodyPost_ret (v := .tuple #[.slice A2 n2 c2, .agg #[.int .i64 a0, .int .i64 a1], .int .i64 k]) (by simp [results, Tryd.results56, go_sem, e0, e1]) rfl ⟨_, _, _, rfl, by first | exact HR3.out | exact HR3.out.below (Below.refl _ _).drew, by first | exact hb5 | exact hb5.drew⟩

theorem accessedB_good (cs m2 : List CellD) (A : Option Addr) (q c : Nat) (x t a0 a1 : Int) (ev : Value) (k : Int) (w : World) (h : RdC w (.slice A q c) cs) (hl : cs.length + tagSum cs ≤ 1048590) (hl2 : m2.length + tagSum m2 ≤ 1048600) (hB : memB cs = true)
    (hcl : ∀ w1 A1 c1 Bm, Below w.heap.size w w1 → Bm ≤ w1.heap.size → RowM w1 Bm (.slice A1 cs.length c1) cs → Calls Tryd.prog 59 #[.slice A1 cs.length c1, .agg #[.int .i64 x, .int .i64 t]] w1 (ResPost w1 Bm m2 (.agg #[.int .i64 a0, .int .i64 a1]) ev))
    (hcode : ∀ w1, Below w.heap.size w w1 → Calls Tryd.prog 81 #[ev] w1 fun E w' => E = .returned (.int .i64 k) ∧ w' = w1) :
    Calls Tryd.prog 56 #[.slice A q c, .agg #[.int .i64 x, .int .i64 t], .func (.func 59) #[] #[]] w (PtrPost w m2 a0 a1 k) := by
  refine accessedB_gen m2 A q c x t a0 a1 k w fun w1 b1 b2 b3 hb h0 h1 h3 hz e1 e2 e3 => ?_
  subst e1 e2 e3
  refine changed_accP cs m2 A q c (w.heap.size + 3) (w.heap.size + 3) _ _ _ _ ev k w1 (h.below hb) hl hl2 hB (by omega) (fun w2 A1 c1 hb2 hM => ?_) (fun w2 hb2 => hcode w2 (hb.trans (hb2.mono (by omega))))
  have g0 := (hb2.block w.heap.size (by omega)).trans h0
  have g1 := (hb2.block (w.heap.size + 1) (by omega)).trans h1
  have g3 := (hb2.block (w.heap.size + 3) (by omega)).trans h3
  exact cloB_any _ _ _ _ (w.heap.size + 3) w1.heap.size x t 0 0 a0 a1 m2 ev w2 ((cell_of_block g1 0).trans rfl) ((cell_of_block g0 0).trans rfl) ((cell_of_block g0 1).trans rfl) g3 (Nat.le_refl _) (by omega) (hcl w2 A1 c1 w1.heap.size (hb.trans (hb2.mono hb.size)) hb2.size hM)

theorem accessedB_bad (cs : List CellD) (A : Option Addr) (q c : Nat) (x t : Int) (w : World) (h : RdC w (.slice A q c) cs) (hl : cs.length + tagSum cs ≤ 1048590) (hB : memB cs = false) :
    Calls Tryd.prog 56 #[.slice A q c, .agg #[.int .i64 x, .int .i64 t], .func (.func 59) #[] #[]] w (PtrPost w cs 0 0 4) := by
  refine accessedB_gen cs A q c x t 0 0 4 w fun w1 b1 b2 b3 hb h0 h1 h3 hz e1 e2 e3 => ?_
  refine (changed_bad cs A q c _ w1 (h.below hb) hl hB).mono ?_
  rintro E w2 ⟨A2, n2, c2, rfl, hR, hb2⟩
  exact ⟨A2, n2, c2, rfl, hR, hb2.mono (by omega), (hb2.block (w.heap.size + 3) (by omega)).trans h3⟩

set_option maxRecDepth 100000 in
set_option maxHeartbeats 1000000 in
theorem implBorrowCell_of (m2 : List CellD) (A : Option Addr) (q c : Nat) (x t a0 a1 k : Int) (w : World)
    (hc : ∀ w1, Below w.heap.size w w1 → Calls Tryd.prog 56 #[.slice A q c, .agg #[.int .i64 x, .int .i64 t], .func (.func 59) #[] #[]] w1 (PtrPost w1 m2 a0 a1 k)) :
    Calls Tryd.prog 27 #[.slice A q c, .agg #[.int .i64 x, .int .i64 t]] w (PtrPost w m2 a0 a1 k) := by
  have hb0 := ((Below.refl w.heap.size w).alloc (Nat.le_refl _) (.cells #[.int .i64 x, .int .i64 t] 25)).alloc (by simp) (.cells #[.int .i64 0, .int .i64 0] 25)
  have hX0 := alloc2_first w (.cells #[.int .i64 x, .int .i64 t] 25) (.cells #[.int .i64 0, .int .i64 0] 25)
  have hX1 := alloc2_second w (.cells #[.int .i64 x, .int .i64 t] 25) (.cells #[.int .i64 0, .int .i64 0] 25)
  have hc0 : ((w.alloc (.cells #[.int .i64 x, .int .i64 t] 25)).alloc (.cells #[.int .i64 0, .int .i64 0] 25)).cell? ⟨w.heap.size, 0, none⟩ = some (.int .i64 x) := (cell_of_block hX0 0).trans rfl
  have hc1 : ((w.alloc (.cells #[.int .i64 x, .int .i64 t] 25)).alloc (.cells #[.int .i64 0, .int .i64 0] 25)).cell? ⟨w.heap.size, 1, none⟩ = some (.int .i64 t) := (cell_of_block hX0 1).trans rfl
  have hz : ((w.alloc (.cells #[.int .i64 x, .int .i64 t] 25)).alloc (.cells #[.int .i64 0, .int .i64 0] 25)).heap.size = w.heap.size + 2 := by simp
  have HC := Lib.hid (hc _ hb0)
  have HB0 := Lib.hid hb0
  have HX1 := Lib.hid hX1
  have HZ := Lib.hid hz
  clear hc hb0 hX0 hX1 hz
  go_enter Tryd.func27, Tryd.ntmps27
  go_wp2_with fail
  refine HC.out.mono ?_
  rintro E w2 ⟨A2, n2, c2, rfl, hR, hb⟩
  have hz := HZ.out
  have hy := (hb.block (w.heap.size + 1) (by omega)).trans HX1.out
  have x0 := (cell_of_block hy 0).trans (show _ = some (.int .i64 0) from rfl)
  have x1 := (cell_of_block hy 1).trans (show _ = some (.int .i64 0) from rfl)
  have f0 := frozen_of_block hy 0
  have f1 := frozen_of_block hy 1
  obtain ⟨e0, e1⟩ := ptr_store hy (.int .i64 a0) (.int .i64 a1)
  have HR := Lib.hid (((hR.mono (show w.heap.size + 2 ≤ ((w.alloc (.cells #[.int .i64 x, .int .i64 t] 25)).alloc (.cells #[.int .i64 0, .int .i64 0] 25)).heap.size by omega)).setLow (o := 0) (x := .int .i64 a0) (show w.heap.size + 1 < w.heap.size + 2 by omega)).setLow (o := 1) (x := .int .i64 a1) (show w.heap.size + 1 < w.heap.size + 2 by omega))
  have HBF : Hid (Below w.heap.size w ((w2.setCell ⟨w.heap.size + 1, 0, none⟩ (.int .i64 a0)).setCell ⟨w.heap.size + 1, 1, none⟩ (.int .i64 a1))) := ((HB0.out.trans (hb.mono (by omega))).setCell (by simp) _).setCell (by simp) _
  clear hR hb HC hz hy hc0 hc1
  go_wp2_with fail
  exact bodyPost_ret (v := .tuple #[.slice A2 n2 c2, .agg #[.int .i64 a0, .int .i64 a1], .int .i64 k]) (by simp [results, Tryd.results27, go_sem, e0, e1]) rfl ⟨_, _, _, rfl, HR.out.mono (by omega), HBF.out⟩

/-- An error on the way: the memory stays. -/
theorem borrow_stop (cs : List CellD) (A : Option Addr) (q c : Nat) (x t : Int) (T : TypeId) (u : Value) (Bm : Nat) (w : World) (hM : RowM w Bm (.slice A q c) cs)
    (hr : ∀ w1, Below w.heap.size w w1 → Calls Tryd.prog 82 #[.slice A q c, .agg #[.int .i64 x, .int .i64 t]] w1 fun E w' => E = .returned (.tuple #[.agg #[.int .i64 0, .bool false, .int .i64 0, .pointer none], .iface T u]) ∧ Below w1.heap.size w1 w') :
    Calls Tryd.prog 59 #[.slice A q c, .agg #[.int .i64 x, .int .i64 t]] w (ResPost w Bm cs (.agg #[.int .i64 0, .int .i64 0]) (.iface T u)) := by
  refine (borrow_err (.slice A q c) x t w T u hr).mono ?_
  rintro E w' ⟨rfl, hb⟩
  exact ⟨_, rfl, hM.below hb, hb⟩

/-- There is room for another tag. -/
theorem borrow_room (cs : List CellD) (A : Option Addr) (q c i : Nat) (t : Int) (d : CellD) (ts : List TagD) (Bm : Nat) (w : World) (hM : RowM w Bm (.slice A q c) cs) (hBm : Bm ≤ w.heap.size) (hiq : i < q) (hl : q ≤ 1048600) (ha : d.alive = true) (h1 : ts.length < 200) (h2 : 0 ≤ d.next) (h3 : d.next < 1000)
    (hr : ∀ w1, Below w.heap.size w w1 → Calls Tryd.prog 82 #[.slice A q c, .agg #[.int .i64 (i : Int), .int .i64 t]] w1 fun E w' => ∃ p, E = .returned (.tuple #[.agg #[.int .i64 d.val, .bool true, .int .i64 d.next, .pointer p], .nilIface]) ∧ Stk w' w'.heap.size ts.reverse p ∧ Below w1.heap.size w1 w') :
    Calls Tryd.prog 59 #[.slice A q c, .agg #[.int .i64 (i : Int), .int .i64 t]] w (ResPost w Bm (cs.set i ⟨d.val, true, d.next + 1, ts ++ [⟨d.next, true⟩]⟩) (.agg #[.int .i64 (i : Int), .int .i64 d.next]) .nilIface) := by
  refine (borrow_gen (.slice A q c) i t i d.next d .nilIface ts (fun v' w' => RowM w' (w.heap.size + 2) v' (cs.set i ⟨d.val, true, d.next + 1, ts ++ [⟨d.next, true⟩]⟩)) w hr (fun w1 p hb hle hs => ?_) (fun v' w' a b hy hQ => ?_)).mono ?_
  · have h4 := withTag_ok cs A q c i d ts p true w1 (hM.reads.below hb) hiq hl hs h1 h2 h3
    rw [ha] at h4
    refine h4.mono ?_
    rintro E w' ⟨v', rfl, hR, hb'⟩
    exact ⟨v', rfl, hR.mono hle, hb'⟩
  · exact (hQ.setType hy (by decide) (by omega)).setType (set_keeps hy _ _) (by decide) (by omega)
  · rintro E w' ⟨v', rfl, hR, hb'⟩
    exact ⟨v', rfl, hR.mono (by omega), hb'⟩

/-- There is none. -/
theorem borrow_full (cs : List CellD) (A : Option Addr) (q c : Nat) (x t : Int) (d : CellD) (ts : List TagD) (T : TypeId) (u : Value) (Bm : Nat) (w : World) (hM : RowM w Bm (.slice A q c) cs) (hG : ErrI w (.iface T u)) (ha : d.alive = true) (hbad : ¬ (ts.length < 200 ∧ d.next < 1000))
    (hr : ∀ w1, Below w.heap.size w w1 → Calls Tryd.prog 82 #[.slice A q c, .agg #[.int .i64 x, .int .i64 t]] w1 fun E w' => ∃ p, E = .returned (.tuple #[.agg #[.int .i64 d.val, .bool true, .int .i64 d.next, .pointer p], .nilIface]) ∧ Stk w' w'.heap.size ts.reverse p ∧ Below w1.heap.size w1 w') :
    Calls Tryd.prog 59 #[.slice A q c, .agg #[.int .i64 x, .int .i64 t]] w (ResPost w Bm cs (.agg #[.int .i64 0, .int .i64 0]) (.iface T u)) := by
  refine (borrow_gen (.slice A q c) x t 0 0 d (.iface T u) ts (fun v' _ => v' = .slice A q c) w hr (fun w1 p hb hle hs => ?_) (fun v' w' a b hy hQ => hQ)).mono ?_
  · have h4 := withTag_full (.slice A q c) x d ts p true w1 T u hs (hG.below hb) hbad
    rw [ha] at h4
    refine h4.mono ?_
    rintro E w' ⟨rfl, hb'⟩
    exact ⟨_, rfl, rfl, hb'⟩
  · rintro E w' ⟨v', rfl, rfl, hb'⟩
    exact ⟨_, rfl, hM.below hb', hb'⟩

theorem implBorrowCell_any (cs : List CellD) (A : Option Addr) (q c : Nat) (x t : Int) (w : World) (aI aF aL aR : Addr) (h : RdC w (.slice A q c) cs) (hl : cs.length + tagSum cs ≤ 1048590) (hE : Errs w aI aF aL aR) (hl2 : (borrowA cs x t).1.length + tagSum (borrowA cs x t).1 ≤ 1048600) :
    Calls Tryd.prog 27 #[.slice A q c, .agg #[.int .i64 x, .int .i64 t]] w (PtrPost w (borrowA cs x t).1 (borrowA cs x t).2.1.1 (borrowA cs x t).2.1.2 (borrowA cs x t).2.2) := by
  cases hB : memB cs with
  | false =>
    have e : borrowA cs x t = (cs, (0, 0), 4) := by unfold borrowA hitW hit; simp [hB]
    rw [e]
    exact implBorrowCell_of cs A q c x t 0 0 4 w fun w1 hb => accessedB_bad cs A q c x t w1 (h.below hb) hl hB
  | true =>
    by_cases hx : 0 ≤ x ∧ x < cs.length
    · obtain ⟨i, rfl⟩ : ∃ i : Nat, x = (i : Int) := ⟨x.toNat, by omega⟩
      have hi : i < cs.length := by omega
      have hd : cs[i]? = some cs[i] := List.getElem?_eq_getElem hi
      obtain ⟨d, hdd⟩ : ∃ d, cs[i] = d := ⟨_, rfl⟩
      rw [hdd] at hd
      have hok := (memB_out hB).2 i d hd
      cases ha : d.alive with
      | false =>
        have e : borrowA cs (i : Int) t = (cs, (0, 0), 1) := by unfold borrowA hitW hit; simp [hB, hi, hdd, ha]
        rw [e]
        exact implBorrowCell_of cs A q c i t 0 0 1 w fun w0 hb0 => accessedB_good cs cs A q c i t 0 0 _ 1 w0 (h.below hb0) hl (by omega) hB (fun w1 A1 c1 Bm hb hBm hM => borrow_stop cs A1 cs.length c1 i t _ _ Bm w1 hM fun w2 hb2 => afterWrite_err _ _ _ w2 _ _ fun w3 hb3 =>
          reach_freed cs A1 cs.length c1 i t d w3 _ _ ((hM.reads.below hb2).below hb3) hd ha ((((hE.below hb0).below hb).below hb2).below hb3).gF) (fun w1 hb => codeOf_F w1 aI aF aL aR ((hE.below hb0).below hb))
      | true =>
        cases hta : tagAt t d.tags with
        | none =>
          have e : borrowA cs (i : Int) t = (cs, (0, 0), 2) := by unfold borrowA hitW hit; simp [hB, hi, hdd, ha, hta]
          rw [e]
          have hlo : upT t d.tags.reverse = [] := upT_none fun s hs => tagAt_none_all hta s (by simpa using hs)
          exact implBorrowCell_of cs A q c i t 0 0 2 w fun w0 hb0 => accessedB_good cs cs A q c i t 0 0 _ 2 w0 (h.below hb0) hl (by omega) hB (fun w1 A1 c1 Bm hb hBm hM => borrow_stop cs A1 cs.length c1 i t _ _ Bm w1 hM fun w2 hb2 => afterWrite_err _ _ _ w2 _ _ fun w3 hb3 =>
            reach_lost cs A1 cs.length c1 i t d w3 _ _ ((hM.reads.below hb2).below hb3) hd ha hlo ((((hE.below hb0).below hb).below hb2).below hb3).gL) (fun w1 hb => codeOf_L w1 aI aF aL aR ((hE.below hb0).below hb))
        | some k =>
          obtain ⟨⟨tg, hk, hid⟩, -⟩ := tagAt_some hta
          have hab : ∀ s ∈ d.tags.drop (k + 1), s.id ≠ t := by rw [← hid]; exact hok.above hk
          have hup := upT_take hk hid hab
          have htk : d.tags.take (k + 1) = d.tags.take k ++ [tg] := by rw [List.take_add_one, hk]; rfl
          have hup2 : upT t d.tags.reverse = tg :: (d.tags.take k).reverse := by rw [hup, htk]; simp
          have hln : d.tags.length ≤ 1000 := by have := hok.lenM; omega
          cases hu : tg.u with
          | false =>
            have e : borrowA cs (i : Int) t = (cs, (0, 0), 3) := by unfold borrowA hitW hit uAt; simp [hB, hi, hdd, ha, hta, hk, hu]
            rw [e]
            exact implBorrowCell_of cs A q c i t 0 0 3 w fun w0 hb0 => accessedB_good cs cs A q c i t 0 0 _ 3 w0 (h.below hb0) hl (by omega) hB (fun w1 A1 c1 Bm hb hBm hM => borrow_stop cs A1 cs.length c1 i t _ _ Bm w1 hM fun w2 hb2 =>
              afterWrite_ro _ _ _ d w2 _ _ tg _ hup2 hu ((((hE.below hb0).below hb).below hb2)).gR hln fun w3 hb3 =>
                reach_ok cs A1 cs.length c1 i t d w3 _ _ ((hM.reads.below hb2).below hb3) hd ha (by rw [hup2]; simp) ((((hE.below hb0).below hb).below hb2).below hb3).gL) (fun w1 hb => codeOf_R w1 aI aF aL aR ((hE.below hb0).below hb))
          | true =>
            by_cases hroom : (d.tags.take (k + 1)).length < 200 ∧ d.next < 1000
            · have e : borrowA cs (i : Int) t = (cs.set i ⟨d.val, true, d.next + 1, (d.tags.take (k + 1)) ++ [⟨d.next, true⟩]⟩, ((i : Int), d.next), 0) := by
                unfold borrowA hitW hit uAt
                simp only [hB]
                simp [hi, hdd, ha, hta, hk, hu, pushA]
                simpa using hroom
              rw [e] at hl2 ⊢
              refine implBorrowCell_of _ A q c i t i d.next 0 w fun w0 hb0 => accessedB_good cs _ A q c i t i d.next .nilIface 0 w0 (h.below hb0) hl hl2 hB (fun w1 A1 c1 Bm hb hBm hM => ?_) (fun w1 hb => codeOf_nil w1)
              refine borrow_room cs A1 cs.length c1 i t d (d.tags.take (k + 1)) Bm w1 hM hBm hi (by have := (memB_out hB).1; omega) ha hroom.1 (by have := hok.next1; omega) hroom.2 fun w2 hb2 => ?_
              refine (afterWrite_ok _ _ _ d w2 tg _ hup2 hu hln fun w3 hb3 => reach_ok cs A1 cs.length c1 i t d w3 _ _ ((hM.reads.below hb2).below hb3) hd ha (by rw [hup2]; simp) ((((hE.below hb0).below hb).below hb2).below hb3).gL).mono ?_
              rintro E w' ⟨p2, rfl, hs, hb'⟩
              exact ⟨p2, rfl, by rw [← hup]; exact hs, hb'⟩
            · have e : borrowA cs (i : Int) t = (cs, (0, 0), 4) := by
                unfold borrowA hitW hit uAt
                simp only [hB]
                simp [hi, hdd, ha, hta, hk, hu, pushA]
                exact fun e1 => Int.not_lt.1 fun e2 => hroom ⟨by simpa using e1, e2⟩
              rw [e]
              refine implBorrowCell_of cs A q c i t 0 0 4 w fun w0 hb0 => accessedB_good cs cs A q c i t 0 0 _ 4 w0 (h.below hb0) hl (by omega) hB (fun w1 A1 c1 Bm hb hBm hM => ?_) (fun w1 hb => codeOf_I w1 aI aF aL aR ((hE.below hb0).below hb))
              refine borrow_full cs A1 cs.length c1 i t d (d.tags.take (k + 1)) _ _ Bm w1 hM ((hE.below hb0).below hb).gI ha hroom fun w2 hb2 => ?_
              refine (afterWrite_ok _ _ _ d w2 tg _ hup2 hu hln fun w3 hb3 => reach_ok cs A1 cs.length c1 i t d w3 _ _ ((hM.reads.below hb2).below hb3) hd ha (by rw [hup2]; simp) ((((hE.below hb0).below hb).below hb2).below hb3).gL).mono ?_
              rintro E w' ⟨p2, rfl, hs, hb'⟩
              exact ⟨p2, rfl, by rw [← hup]; exact hs, hb'⟩
    · have e : borrowA cs x t = (cs, (0, 0), 4) := by unfold borrowA hitW hit; rw [if_neg (fun e => hx e.2)]
      rw [e]
      exact implBorrowCell_of cs A q c x t 0 0 4 w fun w0 hb0 => accessedB_good cs cs A q c x t 0 0 _ 4 w0 (h.below hb0) hl (by omega) hB (fun w1 A1 c1 Bm hb hBm hM => borrow_stop cs A1 cs.length c1 x t _ _ Bm w1 hM fun w2 hb2 => afterWrite_err _ _ _ w2 _ _ fun w3 hb3 =>
        reach_bad A1 cs.length c1 x t w3 _ _ ((((hE.below hb0).below hb).below hb2).below hb3).gI hx) (fun w1 hb => codeOf_I w1 aI aF aL aR ((hE.below hb0).below hb))

end Go.Proofs.YtfkoobdlhdolbaaDoor
