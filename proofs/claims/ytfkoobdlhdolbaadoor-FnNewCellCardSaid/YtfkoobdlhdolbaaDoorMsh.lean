/-
  A shared pointer to a cell of a memory.
-/
import Derived.Test.YtfkoobdlhdolbaaDoorWtg
namespace Go.Proofs.YtfkoobdlhdolbaaDoor
open Go.RowKit Go.Deep
set_option linter.unusedVariables false

set_option maxRecDepth 100000 in
set_option maxHeartbeats 1000000 in
theorem share_err (v : Value) (x t : Int) (w : World) (T : TypeId) (u : Value) (hr : ∀ w1, Below w.heap.size w w1 → Calls Tryd.prog 75 #[v, .agg #[.int .i64 x, .int .i64 t]] w1 fun E w' => E = .returned (.tuple #[.agg #[.int .i64 0, .bool false, .int .i64 0, .pointer none], .iface T u]) ∧ Below w1.heap.size w1 w') :
    Calls Tryd.prog 57 #[v, .agg #[.int .i64 x, .int .i64 t]] w fun E w' => E = .returned (.tuple #[v, .agg #[.int .i64 0, .int .i64 0], .iface T u]) ∧ Below w.heap.size w w' := by
  have hb0 := ((Below.refl w.heap.size w).alloc (Nat.le_refl _) (.cells #[.int .i64 x, .int .i64 t] 25)).alloc (by simp) (.cells #[.int .i64 0, .int .i64 0] 25)
  have hX0 := alloc2_first w (.cells #[.int .i64 x, .int .i64 t] 25) (.cells #[.int .i64 0, .int .i64 0] 25)
  have hX1 := alloc2_second w (.cells #[.int .i64 x, .int .i64 t] 25) (.cells #[.int .i64 0, .int .i64 0] 25)
  have hc0 : ((w.alloc (.cells #[.int .i64 x, .int .i64 t] 25)).alloc (.cells #[.int .i64 0, .int .i64 0] 25)).cell? ⟨w.heap.size, 0, none⟩ = some (.int .i64 x) := (cell_of_block hX0 0).trans rfl
  have hc1 : ((w.alloc (.cells #[.int .i64 x, .int .i64 t] 25)).alloc (.cells #[.int .i64 0, .int .i64 0] 25)).cell? ⟨w.heap.size, 1, none⟩ = some (.int .i64 t) := (cell_of_block hX0 1).trans rfl
  have hz : ((w.alloc (.cells #[.int .i64 x, .int .i64 t] 25)).alloc (.cells #[.int .i64 0, .int .i64 0] 25)).heap.size = w.heap.size + 2 := by simp
  have HR := Lib.hid (hr _ hb0)
  have HB0 := Lib.hid hb0
  have HX0 := Lib.hid hX0
  have HX1 := Lib.hid hX1
  have HZ := Lib.hid hz
  clear hr hb0 hX0 hX1 hz
  go_enter Tryd.func57, Tryd.ntmps57
  go_wp2_with fail
  refine HR.out.mono ?_
  rintro E w2 ⟨rfl, hb⟩
  have hz := HZ.out
  have hs := hb.size
  have hbb : Below w.heap.size w (w2.alloc (.cells #[.int .i64 0, .bool false, .int .i64 0, .pointer none] 96)) := (HB0.out.trans (hb.mono (by omega))).alloc (by omega) _
  have hy : (w2.alloc (.cells #[.int .i64 0, .bool false, .int .i64 0, .pointer none] 96)).heap[w.heap.size + 1]? = some (.cells #[.int .i64 0, .int .i64 0] 25 (0, 0)) := (Below.heap_alloc _ _ _ (by omega)).trans ((hb.block (w.heap.size + 1) (by omega)).trans HX1.out)
  have x0 := (cell_of_block hy 0).trans (show _ = some (.int .i64 0) from rfl)
  have x1 := (cell_of_block hy 1).trans (show _ = some (.int .i64 0) from rfl)
  have f0 := frozen_of_block hy 0
  have f1 := frozen_of_block hy 1
  obtain ⟨e0, e1⟩ := ptr_store hy (.int .i64 0) (.int .i64 0)
  have HBB := Lib.hid hbb
  clear hb hy hbb hs hz hc0 hc1 HR
  go_wp2_with fail
  exact bodyPost_ret (v := .tuple #[v, .agg #[.int .i64 0, .int .i64 0], .iface T u]) (by simp [results, Tryd.results57, go_sem, e0, e1]) rfl ⟨rfl, (HBB.out.setCell (by simp) _).setCell (by simp) _⟩

set_option maxRecDepth 100000 in
set_option maxHeartbeats 2000000 in
theorem share_gen (v : Value) (x t a0 a1 : Int) (d : CellD) (ev : Value) (ts : List TagD) (Q : Value → World → Prop) (w : World)
    (hr : ∀ w1, Below w.heap.size w w1 → Calls Tryd.prog 75 #[v, .agg #[.int .i64 x, .int .i64 t]] w1 fun E w' => ∃ p, E = .returned (.tuple #[.agg #[.int .i64 d.val, .bool true, .int .i64 d.next, .pointer p], .nilIface]) ∧ Stk w' w'.heap.size ts.reverse p ∧ Below w1.heap.size w1 w')
    (ht : ∀ w1 p, Below w.heap.size w w1 → w.heap.size + 2 ≤ w1.heap.size → Stk w1 w1.heap.size ts.reverse p → Calls Tryd.prog 84 #[v, .int .i64 x, .agg #[.int .i64 d.val, .bool true, .int .i64 d.next, .pointer p], .bool false] w1 fun E w' => ∃ v', E = .returned (.tuple #[v', .agg #[.int .i64 a0, .int .i64 a1], ev]) ∧ Q v' w' ∧ Below w1.heap.size w1 w')
    (hQ : ∀ v' w' a b, w'.heap[w.heap.size + 1]? = some (.cells #[.int .i64 0, .int .i64 0] 25 (0, 0)) → Q v' w' → Q v' ((w'.setCell ⟨w.heap.size + 1, 0, none⟩ a).setCell ⟨w.heap.size + 1, 1, none⟩ b)) :
    Calls Tryd.prog 57 #[v, .agg #[.int .i64 x, .int .i64 t]] w fun E w' => ∃ v', E = .returned (.tuple #[v', .agg #[.int .i64 a0, .int .i64 a1], ev]) ∧ Q v' w' ∧ Below w.heap.size w w' := by
  have hb0 := ((Below.refl w.heap.size w).alloc (Nat.le_refl _) (.cells #[.int .i64 x, .int .i64 t] 25)).alloc (by simp) (.cells #[.int .i64 0, .int .i64 0] 25)
  have hX0 := alloc2_first w (.cells #[.int .i64 x, .int .i64 t] 25) (.cells #[.int .i64 0, .int .i64 0] 25)
  have hX1 := alloc2_second w (.cells #[.int .i64 x, .int .i64 t] 25) (.cells #[.int .i64 0, .int .i64 0] 25)
  have hc0 : ((w.alloc (.cells #[.int .i64 x, .int .i64 t] 25)).alloc (.cells #[.int .i64 0, .int .i64 0] 25)).cell? ⟨w.heap.size, 0, none⟩ = some (.int .i64 x) := (cell_of_block hX0 0).trans rfl
  have hc1 : ((w.alloc (.cells #[.int .i64 x, .int .i64 t] 25)).alloc (.cells #[.int .i64 0, .int .i64 0] 25)).cell? ⟨w.heap.size, 1, none⟩ = some (.int .i64 t) := (cell_of_block hX0 1).trans rfl
  have hz : ((w.alloc (.cells #[.int .i64 x, .int .i64 t] 25)).alloc (.cells #[.int .i64 0, .int .i64 0] 25)).heap.size = w.heap.size + 2 := by simp
  have HR := Lib.hid (hr _ hb0)
  have HB0 := Lib.hid hb0
  have HX0 := Lib.hid hX0
  have HX1 := Lib.hid hX1
  have HZ := Lib.hid hz
  have HT := Lib.hid ht
  have HQ := Lib.hid hQ
  clear hr hb0 hX0 hX1 hz ht hQ
  go_enter Tryd.func57, Tryd.ntmps57
  go_wp2_with fail
  refine HR.out.mono ?_
  rintro E w2 ⟨p, rfl, hst, hb⟩
  have hz := HZ.out
  have hs := hb.size
  have hba := (Below.refl w2.heap.size w2).alloc (Nat.le_refl _) (.cells #[.int .i64 d.val, .bool true, .int .i64 d.next, .pointer p] 96)
  have hbb : Below w.heap.size w (w2.alloc (.cells #[.int .i64 d.val, .bool true, .int .i64 d.next, .pointer p] 96)) := (HB0.out.trans (hb.mono (by omega))).alloc (by omega) _
  have hN := (hba.block w.heap.size (by omega)).trans ((hb.block w.heap.size (by omega)).trans HX0.out)
  have hy := (hba.block (w.heap.size + 1) (by omega)).trans ((hb.block (w.heap.size + 1) (by omega)).trans HX1.out)
  have hP := heap_alloc_new w2 (.cells #[.int .i64 d.val, .bool true, .int .i64 d.next, .pointer p] 96)
  have hst2 := (hst.below hba (Nat.le_refl _)).mono hba.size
  have hle : w.heap.size + 2 ≤ (w2.alloc (.cells #[.int .i64 d.val, .bool true, .int .i64 d.next, .pointer p] 96)).heap.size := by rw [World.size_alloc]; omega
  have HS := Lib.hid (HT.out _ p hbb hle hst2)
  have HBB := Lib.hid hbb
  have HY := Lib.hid hy
  have HLE := Lib.hid hle
  have HN := Lib.hid hN
  have HP := Lib.hid hP
  clear hb hba hbb hN hy hP hst hst2 hle hs hz hc0 hc1 HR HT
  go_upto_region 4 with fail
  obtain ⟨W1, hW1⟩ : ∃ z, w2.alloc (.cells #[.int .i64 d.val, .bool true, .int .i64 d.next, .pointer p] 96) = z := ⟨_, rfl⟩
  rw [hW1] at HS HBB HY HLE HN HP ⊢
  clear hW1
  have k0 := (cell_of_block HN.out 0).trans (show _ = some (.int .i64 x) from rfl)
  have y0 := (cell_of_block HP.out 0).trans (show _ = some (.int .i64 d.val) from rfl)
  have y1 := (cell_of_block HP.out 1).trans (show _ = some (.bool true) from rfl)
  have y2 := (cell_of_block HP.out 2).trans (show _ = some (.int .i64 d.next) from rfl)
  have y3 := (cell_of_block HP.out 3).trans (show _ = some (.pointer p) from rfl)
  go_wp2_with fail
  refine HS.out.mono ?_
  rintro E w3 ⟨v', rfl, hq, hb3⟩
  have hle := HLE.out
  have hy3 := (hb3.block (w.heap.size + 1) (by omega)).trans HY.out
  have x0 := (cell_of_block hy3 0).trans (show _ = some (.int .i64 0) from rfl)
  have x1 := (cell_of_block hy3 1).trans (show _ = some (.int .i64 0) from rfl)
  have f0 := frozen_of_block hy3 0
  have f1 := frozen_of_block hy3 1
  obtain ⟨e0, e1⟩ := ptr_store hy3 (.int .i64 a0) (.int .i64 a1)
  have HQ3 := Lib.hid (HQ.out v' w3 (.int .i64 a0) (.int .i64 a1) hy3 hq)
  have HBF : Hid (Below w.heap.size w ((w3.setCell ⟨w.heap.size + 1, 0, none⟩ (.int .i64 a0)).setCell ⟨w.heap.size + 1, 1, none⟩ (.int .i64 a1))) := ((HBB.out.trans (hb3.mono (by omega))).setCell (by simp) _).setCell (by simp) _
  clear hq hb3 hle hy3 k0 y0 y1 y2 y3 HQ HS
  go_wp2_with fail
  exact bodyPost_ret (v := .tuple #[v', .agg #[.int .i64 a0, .int .i64 a1], ev]) (by simp [results, Tryd.results57, go_sem, e0, e1]) rfl ⟨v', rfl, HQ3.out, HBF.out⟩

end Go.Proofs.YtfkoobdlhdolbaaDoor
