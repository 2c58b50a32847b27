/-
  The program's check of one statement.
-/
import Derived.Test.YtlddoookojjleaaGreatDoorZKindsB
import Derived.Deep.RegionHeld3
import Derived.Deep.RegionWith
namespace Go.Proofs.YtlddoookojjleaaGreatDoor
open Go.RowKit Go.Deep
set_option linter.unusedVariables false

/-- What a check does to memory: the count in block C turns, and nothing else that was there. -/
structure Chk (C : Nat) (vs : Value) (w w' : World) (m' : Int) : Prop where
  os : w'.os = w.os
  tape : w'.tape = w.tape
  output : w'.output = w.output
  size : w.heap.size ≤ w'.heap.size
  block : ∀ k, k < w.heap.size → k ≠ C → w'.heap[k]? = w.heap[k]?
  cell : w'.heap[C]? = some (.cells #[vs, .int .i64 m'] 103 (0, 0))

/-- What holds all along the test of a statement: what was there stays, and so the cells that the test loads. -/
theorem held_S {C B K : Nat} {w1 wo w' : World} {vs b0 b1 b2 b3 b4 b5 : Value} (hb : Below wo.heap.size wo w') (h : Below K w1 wo) (hK : K = w1.heap.size) (hC : C < w1.heap.size) (hB : B < w1.heap.size) (k0 : w1.cell? ⟨C, 0, none⟩ = some vs)
    (q0 : w1.cell? ⟨B, 0, none⟩ = some b0) (q1 : w1.cell? ⟨B, 1, none⟩ = some b1) (q2 : w1.cell? ⟨B, 2, none⟩ = some b2) (q3 : w1.cell? ⟨B, 3, none⟩ = some b3) (q4 : w1.cell? ⟨B, 4, none⟩ = some b4) (q5 : w1.cell? ⟨B, 5, none⟩ = some b5) :
    Below K w1 w' ∧ w'.cell? ⟨C, 0, none⟩ = some vs ∧ w'.cell? ⟨B, 0, none⟩ = some b0 ∧ w'.cell? ⟨B, 1, none⟩ = some b1 ∧ w'.cell? ⟨B, 2, none⟩ = some b2 ∧ w'.cell? ⟨B, 3, none⟩ = some b3 ∧ w'.cell? ⟨B, 4, none⟩ = some b4 ∧ w'.cell? ⟨B, 5, none⟩ = some b5 := by
  subst hK
  have hbb : Below w1.heap.size w1 w' := h.trans (hb.mono h.size)
  exact ⟨hbb, (hbb.cell hC).trans k0, (hbb.cell hB).trans q0, (hbb.cell hB).trans q1, (hbb.cell hB).trans q2, (hbb.cell hB).trans q3, (hbb.cell hB).trans q4, (hbb.cell hB).trans q5⟩

theorem ahead_1 (v : Value) (w : World) : (nilAhead 271 136 v "loop.example/borrowcheck/impl.fits").run Tryz.prog w = .ok (some false) w := by kernel_rfl
theorem fitsAt_1 (v : Value) (w : World) : (method 271 136 v "loop.example/borrowcheck/impl.fits").run Tryz.prog w = .ok (94, v) w := by kernel_rfl
theorem plainAt_1 (v : Value) (w : World) : (method 271 136 v "loop.example/borrowcheck/impl.plain").run Tryz.prog w = .ok (95, v) w := by kernel_rfl
theorem ahead_2 (v : Value) (w : World) : (nilAhead 271 137 v "loop.example/borrowcheck/impl.fits").run Tryz.prog w = .ok (some false) w := by kernel_rfl
theorem fitsAt_2 (v : Value) (w : World) : (method 271 137 v "loop.example/borrowcheck/impl.fits").run Tryz.prog w = .ok (98, v) w := by kernel_rfl
theorem plainAt_2 (v : Value) (w : World) : (method 271 137 v "loop.example/borrowcheck/impl.plain").run Tryz.prog w = .ok (99, v) w := by kernel_rfl
theorem ahead_3 (v : Value) (w : World) : (nilAhead 271 139 v "loop.example/borrowcheck/impl.fits").run Tryz.prog w = .ok (some false) w := by kernel_rfl
theorem fitsAt_3 (v : Value) (w : World) : (method 271 139 v "loop.example/borrowcheck/impl.fits").run Tryz.prog w = .ok (101, v) w := by kernel_rfl
theorem plainAt_3 (v : Value) (w : World) : (method 271 139 v "loop.example/borrowcheck/impl.plain").run Tryz.prog w = .ok (102, v) w := by kernel_rfl
theorem ahead_4 (v : Value) (w : World) : (nilAhead 271 140 v "loop.example/borrowcheck/impl.fits").run Tryz.prog w = .ok (some false) w := by kernel_rfl
theorem fitsAt_4 (v : Value) (w : World) : (method 271 140 v "loop.example/borrowcheck/impl.fits").run Tryz.prog w = .ok (104, v) w := by kernel_rfl
theorem plainAt_4 (v : Value) (w : World) : (method 271 140 v "loop.example/borrowcheck/impl.plain").run Tryz.prog w = .ok (105, v) w := by kernel_rfl
theorem ahead_5 (v : Value) (w : World) : (nilAhead 271 141 v "loop.example/borrowcheck/impl.fits").run Tryz.prog w = .ok (some false) w := by kernel_rfl
theorem fitsAt_5 (v : Value) (w : World) : (method 271 141 v "loop.example/borrowcheck/impl.fits").run Tryz.prog w = .ok (108, v) w := by kernel_rfl
theorem plainAt_5 (v : Value) (w : World) : (method 271 141 v "loop.example/borrowcheck/impl.plain").run Tryz.prog w = .ok (109, v) w := by kernel_rfl
theorem ahead_6 (v : Value) (w : World) : (nilAhead 271 142 v "loop.example/borrowcheck/impl.fits").run Tryz.prog w = .ok (some false) w := by kernel_rfl
theorem fitsAt_6 (v : Value) (w : World) : (method 271 142 v "loop.example/borrowcheck/impl.fits").run Tryz.prog w = .ok (112, v) w := by kernel_rfl
theorem plainAt_6 (v : Value) (w : World) : (method 271 142 v "loop.example/borrowcheck/impl.plain").run Tryz.prog w = .ok (113, v) w := by kernel_rfl
theorem ahead_7 (v : Value) (w : World) : (nilAhead 271 143 v "loop.example/borrowcheck/impl.fits").run Tryz.prog w = .ok (some false) w := by kernel_rfl
theorem fitsAt_7 (v : Value) (w : World) : (method 271 143 v "loop.example/borrowcheck/impl.fits").run Tryz.prog w = .ok (115, v) w := by kernel_rfl
theorem plainAt_7 (v : Value) (w : World) : (method 271 143 v "loop.example/borrowcheck/impl.plain").run Tryz.prog w = .ok (116, v) w := by kernel_rfl
theorem ahead_8 (v : Value) (w : World) : (nilAhead 271 145 v "loop.example/borrowcheck/impl.fits").run Tryz.prog w = .ok (some false) w := by kernel_rfl
theorem fitsAt_8 (v : Value) (w : World) : (method 271 145 v "loop.example/borrowcheck/impl.fits").run Tryz.prog w = .ok (118, v) w := by kernel_rfl
theorem plainAt_8 (v : Value) (w : World) : (method 271 145 v "loop.example/borrowcheck/impl.plain").run Tryz.prog w = .ok (119, v) w := by kernel_rfl
theorem ahead_9 (v : Value) (w : World) : (nilAhead 271 147 v "loop.example/borrowcheck/impl.fits").run Tryz.prog w = .ok (some false) w := by kernel_rfl
theorem fitsAt_9 (v : Value) (w : World) : (method 271 147 v "loop.example/borrowcheck/impl.fits").run Tryz.prog w = .ok (121, v) w := by kernel_rfl
theorem plainAt_9 (v : Value) (w : World) : (method 271 147 v "loop.example/borrowcheck/impl.plain").run Tryz.prog w = .ok (122, v) w := by kernel_rfl
theorem ahead_10 (v : Value) (w : World) : (nilAhead 271 149 v "loop.example/borrowcheck/impl.fits").run Tryz.prog w = .ok (some false) w := by kernel_rfl
theorem fitsAt_10 (v : Value) (w : World) : (method 271 149 v "loop.example/borrowcheck/impl.fits").run Tryz.prog w = .ok (124, v) w := by kernel_rfl
theorem plainAt_10 (v : Value) (w : World) : (method 271 149 v "loop.example/borrowcheck/impl.plain").run Tryz.prog w = .ok (125, v) w := by kernel_rfl

theorem chk_mk {C : Nat} {vs : Value} {w w1 wn : World} {o : Obj} {m m' : Int} (hlt : C < w.heap.size) (HC : w.heap[C]? = some (.cells #[vs, .int .i64 m] 103 (0, 0)))
    (hb1 : Below (w.heap.size + 1) ((w.setCell ⟨C, 1, none⟩ (.int .i64 m')).alloc o) w1) (hbn : Below w1.heap.size w1 wn) : Chk C vs w wn m' := by
  have hs1 := hb1.size
  have hz : ((w.setCell ⟨C, 1, none⟩ (.int .i64 m')).alloc o).heap.size = w.heap.size + 1 := by simp [World.setCell]
  rw [hz] at hs1
  have hs2 := hbn.size
  refine ⟨hbn.os.trans hb1.os, hbn.tape.trans hb1.tape, hbn.output.trans hb1.output, by omega, fun k hk hne => ?_, ?_⟩
  · exact (hbn.block k (by omega)).trans ((hb1.block k (by omega)).trans ((Below.heap_alloc _ _ k (by simp [World.setCell]; omega)).trans (Below.heap_setCell _ _ _ _ (by simpa using hne))))
  · exact (hbn.block C (by omega)).trans ((hb1.block C (by omega)).trans ((Below.heap_alloc _ _ C (by simp [World.setCell]; omega)).trans (block_set HC 1 _)))

end Go.Proofs.YtlddoookojjleaaGreatDoor
