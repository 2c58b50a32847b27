/-
  What an effect uses.
-/
import Derived.Test.YtidjphifgemicaaGreatDoorZFlowsK
import Derived.Test.YtidjphifgemicaaGreatDoorZMem
namespace Go.Proofs.YtidjphifgemicaaGreatDoor
open Go.RowKit Go.Deep
set_option linter.unusedVariables false

theorem sub_lt64 {x z y : Nat} (hx : x < 64) (hzl : z < 18446744073709551616) (h : ∀ k, k < 64 → z.testBit k = (x.testBit k && !y.testBit k)) : z < 64 := by
  refine Nat.lt_pow_two_of_testBit (n := 6) z fun i hi => ?_
  by_cases h6 : i < 64
  · rw [h i h6, Nat.testBit_lt_two_pow (Nat.lt_of_lt_of_le hx (Nat.pow_le_pow_right (by decide) hi : 2 ^ 6 ≤ 2 ^ i))]
    rfl
  · exact Nat.testBit_lt_two_pow (Nat.lt_of_lt_of_le (by omega : z < 2 ^ 64) (Nat.pow_le_pow_right (by decide) (by omega)))

theorem held_4 {B K : Nat} {w1 wo w' : World} {b0 b1 b2 b3 : Value} (hb : Below wo.heap.size wo w') (h : Below K w1 wo) (hK : K = w1.heap.size) (hB : B < w1.heap.size)
    (q0 : w1.cell? ⟨B, 0, none⟩ = some b0) (q1 : w1.cell? ⟨B, 1, none⟩ = some b1) (q2 : w1.cell? ⟨B, 2, none⟩ = some b2) (q3 : w1.cell? ⟨B, 3, none⟩ = some b3) :
    Below K w1 w' ∧ w'.cell? ⟨B, 0, none⟩ = some b0 ∧ w'.cell? ⟨B, 1, none⟩ = some b1 ∧ w'.cell? ⟨B, 2, none⟩ = some b2 ∧ w'.cell? ⟨B, 3, none⟩ = some b3 := by
  subst hK
  have hbb : Below w1.heap.size w1 w' := h.trans (hb.mono h.size)
  exact ⟨hbb, (hbb.cell hB).trans q0, (hbb.cell hB).trans q1, (hbb.cell hB).trans q2, (hbb.cell hB).trans q3⟩

set_option maxHeartbeats 1000000 in
theorem uses_any (r t c s : Nat) (hr : r < 64) (ht : t < 64) (hc : c < 64) (w : World) :
    Calls Tryz.prog 136 #[.agg #[.int .u64 r, .int .u64 t, .int .u64 c, .int .u64 s]] w fun E w' => E = .returned (.int .u64 ((r ||| t ||| c : Nat) : Int)) ∧ Below w.heap.size w w' := by
  have hb0 := (Below.refl w.heap.size w).alloc (Nat.le_refl _) (.cells #[.int .u64 r, .int .u64 t, .int .u64 c, .int .u64 s] 86)
  have h1 := bits_or_u64_nat r t (by omega) (by omega)
  have h2lt : r ||| t < 64 := Nat.or_lt_two_pow (n := 6) hr ht
  have h2 := bits_or_u64_nat (r ||| t) c (by omega) (by omega)
  go_enter Tryz.func136, Tryz.ntmps136
  go_wp2_with (simp only [h1, h2])
  go_ret
  exact ⟨rfl, by first | exact hb0 | exact hb0.drew⟩

end Go.Proofs.YtidjphifgemicaaGreatDoor
