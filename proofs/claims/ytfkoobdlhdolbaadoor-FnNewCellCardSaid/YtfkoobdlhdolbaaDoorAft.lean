/-
  What a read and a write do to a cell: the errors of the way there.
-/
import Derived.Test.YtfkoobdlhdolbaaDoorRch3
import Derived.Test.YtfkoobdlhdolbaaDoorStk3
namespace Go.Proofs.YtfkoobdlhdolbaaDoor
open Go.RowKit Go.Deep
set_option linter.unusedVariables false

set_option maxRecDepth 100000 in
set_option maxHeartbeats 1000000 in
theorem afterRead_err (v : Value) (x t : Int) (w : World) (T : TypeId) (u : Value) (hr : ∀ w1, Below w.heap.size w w1 → Calls Tryd.prog 91 #[v, .agg #[.int .i64 x, .int .i64 t]] w1 (ReachErr w1 (.iface T u))) :
    Calls Tryd.prog 75 #[v, .agg #[.int .i64 x, .int .i64 t]] w fun E w' => E = .returned (.tuple #[.agg #[.int .i64 0, .bool false, .int .i64 0, .pointer none], .iface T u]) ∧ Below w.heap.size w w' := by
  have hb0 := ((Below.refl w.heap.size w).alloc (Nat.le_refl _) (.cells #[.int .i64 x, .int .i64 t] 25)).alloc (by simp) (.cells #[.int .i64 0, .bool false, .int .i64 0, .pointer none] 96)
  have hX0 := new_first w (.cells #[.int .i64 x, .int .i64 t] 25) (.cells #[.int .i64 0, .bool false, .int .i64 0, .pointer none] 96)
  have hX1 := new_second w (.cells #[.int .i64 x, .int .i64 t] 25) (.cells #[.int .i64 0, .bool false, .int .i64 0, .pointer none] 96)
  have hc0 : ((w.alloc (.cells #[.int .i64 x, .int .i64 t] 25)).alloc (.cells #[.int .i64 0, .bool false, .int .i64 0, .pointer none] 96)).cell? ⟨w.heap.size, 0, none⟩ = some (.int .i64 x) := (cell_of_block hX0 0).trans rfl
  have hc1 : ((w.alloc (.cells #[.int .i64 x, .int .i64 t] 25)).alloc (.cells #[.int .i64 0, .bool false, .int .i64 0, .pointer none] 96)).cell? ⟨w.heap.size, 1, none⟩ = some (.int .i64 t) := (cell_of_block hX0 1).trans rfl
  have hz : ((w.alloc (.cells #[.int .i64 x, .int .i64 t] 25)).alloc (.cells #[.int .i64 0, .bool false, .int .i64 0, .pointer none] 96)).heap.size = w.heap.size + 2 := by simp
  have HR := Lib.hid (hr _ hb0)
  have HB0 := Lib.hid hb0
  have HX1 := Lib.hid hX1
  have HZ := Lib.hid hz
  clear hr hb0 hX0 hX1 hz
  go_enter Tryd.func75, Tryd.ntmps75
  go_wp2_with fail
  refine HR.out.mono ?_
  rintro E w2 ⟨rfl, hb⟩
  rw [HZ.out] at hb
  have hbb : Below w.heap.size w w2 := HB0.out.trans (hb.mono (by omega))
  have hs := hb.size
  rw [HZ.out] at hs
  have hY := (hb.block (w.heap.size + 1) (by omega)).trans HX1.out
  have hYa : ∀ o, (w2.alloc o).heap[w.heap.size + 1]? = some (.cells #[.int .i64 0, .bool false, .int .i64 0, .pointer none] 96 (0, 0)) := fun o => (Below.heap_alloc _ _ _ (by omega)).trans hY
  have q0 : ∀ o, (w2.alloc o).cell? ⟨w.heap.size + 1, 0, none⟩ = some (.int .i64 0) := fun o => (cell_of_block (hYa o) 0).trans rfl
  have q1 : ∀ o, (w2.alloc o).cell? ⟨w.heap.size + 1, 1, none⟩ = some (.bool false) := fun o => (cell_of_block (hYa o) 1).trans rfl
  have q2 : ∀ o, (w2.alloc o).cell? ⟨w.heap.size + 1, 2, none⟩ = some (.int .i64 0) := fun o => (cell_of_block (hYa o) 2).trans rfl
  have q3 : ∀ o, (w2.alloc o).cell? ⟨w.heap.size + 1, 3, none⟩ = some (.pointer none) := fun o => (cell_of_block (hYa o) 3).trans rfl
  have f0 : ∀ o, (w2.alloc o).frozen? ⟨w.heap.size + 1, 0, none⟩ = false := fun o => frozen_of_block (hYa o) 0
  have f1 : ∀ o, (w2.alloc o).frozen? ⟨w.heap.size + 1, 1, none⟩ = false := fun o => frozen_of_block (hYa o) 1
  have f2 : ∀ o, (w2.alloc o).frozen? ⟨w.heap.size + 1, 2, none⟩ = false := fun o => frozen_of_block (hYa o) 2
  have f3 : ∀ o, (w2.alloc o).frozen? ⟨w.heap.size + 1, 3, none⟩ = false := fun o => frozen_of_block (hYa o) 3
  have HYA := Lib.hid hYa
  clear hb hY hYa hc0 hc1 HR
  go_wp2_with fail
  have hfin := fun o => set_four (HYA.out o) (.int .i64 0) (.bool false) (.int .i64 0) (.pointer none)
  have z0 := fun o => (cell_of_block (hfin o) 0).trans (show _ = some (.int .i64 0) from rfl)
  have z1 := fun o => (cell_of_block (hfin o) 1).trans (show _ = some (.bool false) from rfl)
  have z2 := fun o => (cell_of_block (hfin o) 2).trans (show _ = some (.int .i64 0) from rfl)
  have z3 := fun o => (cell_of_block (hfin o) 3).trans (show _ = some (.pointer none) from rfl)
  exact bodyPost_ret (v := .tuple #[.agg #[.int .i64 0, .bool false, .int .i64 0, .pointer none], .iface T u]) (by simp [results, Tryd.results75, go_sem, z0, z1, z2, z3]) rfl ⟨rfl, ((((hbb.alloc (by omega) _).setCell (by simp) _).setCell (by simp) _).setCell (by simp) _).setCell (by simp) _⟩

set_option maxRecDepth 100000 in
set_option maxHeartbeats 1000000 in
theorem afterWrite_err (v : Value) (x t : Int) (w : World) (T : TypeId) (u : Value) (hr : ∀ w1, Below w.heap.size w w1 → Calls Tryd.prog 91 #[v, .agg #[.int .i64 x, .int .i64 t]] w1 (ReachErr w1 (.iface T u))) :
    Calls Tryd.prog 82 #[v, .agg #[.int .i64 x, .int .i64 t]] w fun E w' => E = .returned (.tuple #[.agg #[.int .i64 0, .bool false, .int .i64 0, .pointer none], .iface T u]) ∧ Below w.heap.size w w' := by
  have hb0 := ((Below.refl w.heap.size w).alloc (Nat.le_refl _) (.cells #[.int .i64 x, .int .i64 t] 25)).alloc (by simp) (.cells #[.int .i64 0, .bool false, .int .i64 0, .pointer none] 96)
  have hX0 := new_first w (.cells #[.int .i64 x, .int .i64 t] 25) (.cells #[.int .i64 0, .bool false, .int .i64 0, .pointer none] 96)
  have hX1 := new_second w (.cells #[.int .i64 x, .int .i64 t] 25) (.cells #[.int .i64 0, .bool false, .int .i64 0, .pointer none] 96)
  have hc0 : ((w.alloc (.cells #[.int .i64 x, .int .i64 t] 25)).alloc (.cells #[.int .i64 0, .bool false, .int .i64 0, .pointer none] 96)).cell? ⟨w.heap.size, 0, none⟩ = some (.int .i64 x) := (cell_of_block hX0 0).trans rfl
  have hc1 : ((w.alloc (.cells #[.int .i64 x, .int .i64 t] 25)).alloc (.cells #[.int .i64 0, .bool false, .int .i64 0, .pointer none] 96)).cell? ⟨w.heap.size, 1, none⟩ = some (.int .i64 t) := (cell_of_block hX0 1).trans rfl
  have hz : ((w.alloc (.cells #[.int .i64 x, .int .i64 t] 25)).alloc (.cells #[.int .i64 0, .bool false, .int .i64 0, .pointer none] 96)).heap.size = w.heap.size + 2 := by simp
  have HR := Lib.hid (hr _ hb0)
  have HB0 := Lib.hid hb0
  have HX1 := Lib.hid hX1
  have HZ := Lib.hid hz
  clear hr hb0 hX0 hX1 hz
  go_enter Tryd.func82, Tryd.ntmps82
  go_wp2_with fail
  refine HR.out.mono ?_
  rintro E w2 ⟨rfl, hb⟩
  rw [HZ.out] at hb
  have hbb : Below w.heap.size w w2 := HB0.out.trans (hb.mono (by omega))
  have hs := hb.size
  rw [HZ.out] at hs
  have hY := (hb.block (w.heap.size + 1) (by omega)).trans HX1.out
  have hYa : ∀ o, (w2.alloc o).heap[w.heap.size + 1]? = some (.cells #[.int .i64 0, .bool false, .int .i64 0, .pointer none] 96 (0, 0)) := fun o => (Below.heap_alloc _ _ _ (by omega)).trans hY
  have q0 : ∀ o, (w2.alloc o).cell? ⟨w.heap.size + 1, 0, none⟩ = some (.int .i64 0) := fun o => (cell_of_block (hYa o) 0).trans rfl
  have q1 : ∀ o, (w2.alloc o).cell? ⟨w.heap.size + 1, 1, none⟩ = some (.bool false) := fun o => (cell_of_block (hYa o) 1).trans rfl
  have q2 : ∀ o, (w2.alloc o).cell? ⟨w.heap.size + 1, 2, none⟩ = some (.int .i64 0) := fun o => (cell_of_block (hYa o) 2).trans rfl
  have q3 : ∀ o, (w2.alloc o).cell? ⟨w.heap.size + 1, 3, none⟩ = some (.pointer none) := fun o => (cell_of_block (hYa o) 3).trans rfl
  have f0 : ∀ o, (w2.alloc o).frozen? ⟨w.heap.size + 1, 0, none⟩ = false := fun o => frozen_of_block (hYa o) 0
  have f1 : ∀ o, (w2.alloc o).frozen? ⟨w.heap.size + 1, 1, none⟩ = false := fun o => frozen_of_block (hYa o) 1
  have f2 : ∀ o, (w2.alloc o).frozen? ⟨w.heap.size + 1, 2, none⟩ = false := fun o => frozen_of_block (hYa o) 2
  have f3 : ∀ o, (w2.alloc o).frozen? ⟨w.heap.size + 1, 3, none⟩ = false := fun o => frozen_of_block (hYa o) 3
  have HYA := Lib.hid hYa
  clear hb hY hYa hc0 hc1 HR
  go_wp2_with fail
  have hfin := fun o => set_four (HYA.out o) (.int .i64 0) (.bool false) (.int .i64 0) (.pointer none)
  have z0 := fun o => (cell_of_block (hfin o) 0).trans (show _ = some (.int .i64 0) from rfl)
  have z1 := fun o => (cell_of_block (hfin o) 1).trans (show _ = some (.bool false) from rfl)
  have z2 := fun o => (cell_of_block (hfin o) 2).trans (show _ = some (.int .i64 0) from rfl)
  have z3 := fun o => (cell_of_block (hfin o) 3).trans (show _ = some (.pointer none) from rfl)
  exact bodyPost_ret (v := .tuple #[.agg #[.int .i64 0, .bool false, .int .i64 0, .pointer none], .iface T u]) (by simp [results, Tryd.results82, go_sem, z0, z1, z2, z3]) rfl ⟨rfl, ((((hbb.alloc (by omega) _).setCell (by simp) _).setCell (by simp) _).setCell (by simp) _).setCell (by simp) _⟩

end Go.Proofs.YtfkoobdlhdolbaaDoor
