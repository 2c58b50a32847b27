/-
  The lattice of two analyses: what is least, and the union.
-/
import Derived.Test.YtidjphifgemicaaGreatDoorZPer
import Derived.Test.YtidjphifgemicaaGreatDoorZMem
import Derived.Deep.RegionHeld3
namespace Go.Proofs.YtidjphifgemicaaGreatDoor.flowLent
open Go.RowKit Go.Deep
set_option linter.unusedVariables false

/-- The value of the two lattices. -/
def bothV : Value := .agg #[.iface 150 (.agg #[]), .iface 151 (.agg #[])]

theorem ahead_l (v : Value) (w : World) : (nilAhead 375 151 v "loop.example/borrowcheck/impl.least").run Tryz.prog w = .ok (some false) w := by kernel_rfl
theorem at_l (v : Value) (w : World) : (method 375 151 v "loop.example/borrowcheck/impl.least").run Tryz.prog w = .ok (177, v) w := by kernel_rfl
theorem ahead_j (v : Value) (w : World) : (nilAhead 375 151 v "loop.example/borrowcheck/impl.join").run Tryz.prog w = .ok (some false) w := by kernel_rfl
theorem at_j (v : Value) (w : World) : (method 375 151 v "loop.example/borrowcheck/impl.join").run Tryz.prog w = .ok (176, v) w := by kernel_rfl
theorem ahead_el (v : Value) (w : World) : (nilAhead 375 150 v "loop.example/borrowcheck/impl.least").run Tryz.prog w = .ok (some false) w := by kernel_rfl
theorem at_el (v : Value) (w : World) : (method 375 150 v "loop.example/borrowcheck/impl.least").run Tryz.prog w = .ok (175, v) w := by kernel_rfl
theorem ahead_ej (v : Value) (w : World) : (nilAhead 375 150 v "loop.example/borrowcheck/impl.join").run Tryz.prog w = .ok (some false) w := by kernel_rfl
theorem at_ej (v : Value) (w : World) : (method 375 150 v "loop.example/borrowcheck/impl.join").run Tryz.prog w = .ok (174, v) w := by kernel_rfl
theorem ahead_pl (v : Value) (w : World) : (nilAhead 375 157 v "loop.example/borrowcheck/impl.least").run Tryz.prog w = .ok (some false) w := by kernel_rfl
theorem at_pl (v : Value) (w : World) : (method 375 157 v "loop.example/borrowcheck/impl.least").run Tryz.prog w = .ok (179, v) w := by kernel_rfl
theorem ahead_pj (v : Value) (w : World) : (nilAhead 375 157 v "loop.example/borrowcheck/impl.join").run Tryz.prog w = .ok (some false) w := by kernel_rfl
theorem at_pj (v : Value) (w : World) : (method 375 157 v "loop.example/borrowcheck/impl.join").run Tryz.prog w = .ok (178, v) w := by kernel_rfl

set_option maxHeartbeats 1000000 in
theorem least_any (w : World) : Calls Tryz.prog 177 #[.agg #[]] w fun E w' => E = .returned (.int .u64 0) ∧ Below w.heap.size w w' := by
  have hb0 := (Below.refl w.heap.size w).alloc (Nat.le_refl _) (.cells #[] 151)
  go_enter Tryz.func177, Tryz.ntmps177
  go_wp2_with fail
  go_ret
  exact ⟨rfl, by first | exact hb0 | exact hb0.drew | exact Below.refl _ _ | exact (Below.refl _ _).drew⟩

set_option maxHeartbeats 1000000 in
theorem join_any (x y : Nat) (hx : x < 18446744073709551616) (hy : y < 18446744073709551616) (w : World) : Calls Tryz.prog 176 #[.agg #[], .int .u64 x, .int .u64 y] w fun E w' => E = .returned (.int .u64 ((x ||| y : Nat) : Int)) ∧ Below w.heap.size w w' := by
  have hb0 := (Below.refl w.heap.size w).alloc (Nat.le_refl _) (.cells #[] 151)
  have h1 := bits_or_u64_nat x y hx hy
  go_enter Tryz.func176, Tryz.ntmps176
  go_wp2_with (simp only [h1])
  go_ret
  exact ⟨rfl, by first | exact hb0 | exact hb0.drew | exact Below.refl _ _ | exact (Below.refl _ _).drew⟩

set_option maxHeartbeats 1000000 in
theorem eachLeast_any (w : World) : Calls Tryz.prog 175 #[.agg #[]] w fun E w' => E = .returned (.agg #[.int .u64 0, .int .u64 0, .int .u64 0, .int .u64 0, .int .u64 0, .int .u64 0]) ∧ Below w.heap.size w w' := by
  have hb0 := (Below.refl w.heap.size w).alloc (Nat.le_refl _) (.cells #[] 150)
  go_enter Tryz.func175, Tryz.ntmps175
  go_wp2_with fail
  have hz0 : (w.alloc (.cells #[] 150)).heap.size = w.heap.size + 1 := by simp
  have hr := heap_alloc_new (w.alloc (.cells #[] 150)) (.cells #[.int .u64 0, .int .u64 0, .int .u64 0, .int .u64 0, .int .u64 0, .int .u64 0] 71)
  rw [hz0] at hr
  refine bodyPost_ret (v := .agg #[.int .u64 0, .int .u64 0, .int .u64 0, .int .u64 0, .int .u64 0, .int .u64 0]) ?_ rfl ⟨rfl, hb0.alloc (by rw [hz0]; omega) _⟩
  exact results_cell rfl Tryz.prog _ _ (w.heap.size + 1) _ rfl (load_per hr rfl)

end Go.Proofs.YtidjphifgemicaaGreatDoor.flowLent
