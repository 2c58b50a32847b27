/-
  What a point sets, by the model.
-/
import Derived.Test.YtbffldgiccijlaaGreatDoorZL2Xa
import Derived.Test.YtbffldgiccijlaaGreatDoorZBase
import Derived.StillTailTactics
namespace Go.Proofs.YtbffldgiccijlaaGreatDoor
open Go.RowKit Go.Deep
set_option linter.unusedVariables false

set_option maxHeartbeats 1000000 in
theorem l3Set_any (op x y n : Int) (nx : List Int) (u : Value) (w : World) :
    Calls Tryz.prog 58 #[.agg #[.int .i64 op, .int .i64 x, .int .i64 y, .int .i64 n, u]] w fun E w' => E = .returned (.int .i64 (setI ⟨op, x, y, n, nx⟩)) ∧ Below w.heap.size w w' := by
  have hb0 := (Below.refl w.heap.size w).alloc (Nat.le_refl _) (.cells #[.int .i64 op, .int .i64 x, .int .i64 y, .int .i64 n, u] 34)
  by_cases h1 : 1 ≤ op
  · by_cases h6 : op ≤ 6
    · have e : setI ⟨op, x, y, n, nx⟩ = x := if_pos ⟨h1, h6⟩
      rw [e]
      have d1 : decide ((1 : Int) ≤ op) = true := decide_eq_true h1
      have d2 : decide (op ≤ (6 : Int)) = true := decide_eq_true h6
      go_enter Tryz.func58, Tryz.ntmps58
      go_wp2_with fail
      go_ret
      exact ⟨rfl, by first | exact hb0 | exact hb0.drew⟩
    · have e : setI ⟨op, x, y, n, nx⟩ = -1 := if_neg (fun h => h6 h.2)
      rw [e]
      have d1 : decide ((1 : Int) ≤ op) = true := decide_eq_true h1
      have d2 : decide (op ≤ (6 : Int)) = false := decide_eq_false h6
      go_enter Tryz.func58, Tryz.ntmps58
      go_wp2_with fail
      go_ret
      exact ⟨rfl, by first | exact hb0 | exact hb0.drew⟩
  · have e : setI ⟨op, x, y, n, nx⟩ = -1 := if_neg (fun h => h1 h.1)
    rw [e]
    have d1 : decide ((1 : Int) ≤ op) = false := decide_eq_false h1
    go_enter Tryz.func58, Tryz.ntmps58
    go_wp2_with fail
    go_ret
    exact ⟨rfl, by first | exact hb0 | exact hb0.drew⟩

end Go.Proofs.YtbffldgiccijlaaGreatDoor
