/-
  Comparing sets for each variable.
-/
import Derived.Test.YtnoejapnjhogaaaGreatDoorZPerG
import Derived.Laws.StructEq
namespace Go.Proofs.YtnoejapnjhogaaaGreatDoor.tr
open Go.RowKit Go.Deep
set_option linter.unusedVariables false

/-- Two rows of six sets are equal. -/
def eq6 (x y : Nat → Nat) : Bool := (x 0 == y 0) && (x 1 == y 1) && (x 2 == y 2) && (x 3 == y 3) && (x 4 == y 4) && (x 5 == y 5)

theorem eq6_iff (x y : Nat → Nat) : eq6 x y = true ↔ ∀ v, v < 6 → x v = y v := by
  unfold eq6
  simp only [Bool.and_eq_true, beq_iff_eq]
  constructor
  · rintro ⟨⟨⟨⟨⟨h0, h1⟩, h2⟩, h3⟩, h4⟩, h5⟩ v hv
    match v, hv with
    | 0, _ => exact h0
    | 1, _ => exact h1
    | 2, _ => exact h2
    | 3, _ => exact h3
    | 4, _ => exact h4
    | 5, _ => exact h5
  · intro h
    exact ⟨⟨⟨⟨⟨h 0 (by omega), h 1 (by omega)⟩, h 2 (by omega)⟩, h 3 (by omega)⟩, h 4 (by omega)⟩, h 5 (by omega)⟩

set_option maxHeartbeats 4000000 in
theorem eqPer6 (x y : Nat → Nat) (w : World) : (Op.equalIn 10000 61 (.agg #[.int .u64 (x 0 : Int), .int .u64 (x 1 : Int), .int .u64 (x 2 : Int), .int .u64 (x 3 : Int), .int .u64 (x 4 : Int), .int .u64 (x 5 : Int)]) (.agg #[.int .u64 (y 0 : Int), .int .u64 (y 1 : Int), .int .u64 (y 2 : Int), .int .u64 (y 3 : Int), .int .u64 (y 4 : Int), .int .u64 (y 5 : Int)])).run Tryz.prog w = .ok ((x 0 == y 0) && (x 1 == y 1) && (x 2 == y 2) && (x 3 == y 3) && (x 4 == y 4) && (x 5 == y 5)) w := by
  have u6 := Tryz.underlying59
  rw [show (10000 : Nat) = 9999 + 1 from rfl, Op.equalIn]
  simp only [Sem.run_bind, run_underlying Tryz.underlying61, Result.andThen_ok]
  simp only [Std.Legacy.Range.forIn_eq_forIn_range', Std.Legacy.Range.size, Nat.sub_zero, Nat.add_sub_cancel, Nat.div_one, List.range'_succ, List.range'_zero, List.forIn_cons, List.forIn_nil]
  go_simp
  generalize x 0 = a0
  generalize x 1 = a1
  generalize x 2 = a2
  generalize x 3 = a3
  generalize x 4 = a4
  generalize x 5 = a5
  generalize y 0 = b0
  generalize y 1 = b1
  generalize y 2 = b2
  generalize y 3 = b3
  generalize y 4 = b4
  generalize y 5 = b5
  have e : ∀ a b : Nat, ((a : Int) = (b : Int)) ↔ a = b := fun a b => by omega
  simp only [e]
  by_cases h0 : a0 = b0
  · subst h0
    by_cases h1 : a1 = b1
    · subst h1
      by_cases h2 : a2 = b2
      · subst h2
        by_cases h3 : a3 = b3
        · subst h3
          by_cases h4 : a4 = b4
          · subst h4
            by_cases h5 : a5 = b5
            · subst h5; simp
            · simp [h5]
          · simp [h4]
        · simp [h3]
      · simp [h2]
    · simp [h1]
  · simp [h0]

theorem guardPer : Tryz.prog.eqGuardType Tryz.prog.depth 61 = false := by kernel_rfl

theorem exec_neq (ρ : Operand → Value) (o : Oper) (x y : Operand) (t : TypeId) (ho : o.op = .binOp .neq 61 x y t) (a b : Nat → Nat) (hx : ρ x = .agg (perC a).toArray) (hy : ρ y = .agg (perC b).toArray) (w : World) : (execOp ρ o).run Tryz.prog w = .ok (.value (.bool (!(eq6 a b)))) w := by
  have hE : (Op.equalIn 10000 61 (.agg (perC a).toArray) (.agg (perC b).toArray)).run Tryz.prog w = .ok (eq6 a b) w := eqPer6 a b w
  unfold execOp
  simp only [ho, hx, hy, Sem.run_bind, run_eqGuard_agg w .neq 61 x y _ _ guardPer, Result.andThen_ok, run_neq_struct, hE, Sem.run_pure]

end Go.Proofs.YtnoejapnjhogaaaGreatDoor.tr
