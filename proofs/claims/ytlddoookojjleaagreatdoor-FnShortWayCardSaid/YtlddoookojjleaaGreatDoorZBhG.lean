/-
  Whether a number is in a set.
-/
import Derived.Test.YtlddoookojjleaaGreatDoorZMem
namespace Go.Proofs.YtlddoookojjleaaGreatDoor
open Go.RowKit Go.Deep
set_option linter.unusedVariables false

theorem bits_and_u64 (a b : Nat) (ha : a < 18446744073709551616) (hb : b < 18446744073709551616) : bits .and .u64 (a : Int) (b : Int) = ((a &&& b : Nat) : Int) := bits_and_u64_nat a b ha hb

theorem shr_and_one (x i : Nat) : (x / 2 ^ i) &&& 1 = if x.testBit i = true then 1 else 0 := by
  have e : x.testBit i = decide ((x / 2 ^ i) % 2 = 1) := by
    rw [← Nat.testBit_zero, ← Nat.shiftRight_eq_div_pow, Nat.testBit_shiftRight]; simp
  rw [Nat.and_one_is_mod, e]
  by_cases h : (x / 2 ^ i) % 2 = 1
  · rw [h]; rfl
  · have : (x / 2 ^ i) % 2 = 0 := by omega
    rw [this]; rfl

set_option maxHeartbeats 1000000 in
/-- Whether a number is in a set. -/
theorem bitHas_any (x i : Nat) (hx : x < 18446744073709551616) (hi : i < 64) (w : World) :
    Calls Tryz.prog 29 #[.int .u64 x, .int .i64 i] w fun E w' => E = .returned (.bool (x.testBit i)) ∧ w' = w := by
  have hd : x / 2 ^ i < 18446744073709551616 := Nat.lt_of_le_of_lt (Nat.div_le_self _ _) hx
  have hk := bits_and_u64 (x / 2 ^ i) 1 hd (by decide)
  rw [shr_and_one] at hk
  have e : (((x / 2 ^ i : Nat)) : Int) = (x : Int) / 2 ^ i := by simp
  rw [e] at hk
  cases hb : x.testBit i
  · rw [hb] at hk
    have hk2 : bits .and .u64 ((x : Int) / 2 ^ i) 1 = 0 := by simpa using hk
    clear hk
    go_enter Tryz.func29, Tryz.ntmps29
    go_wp2_with (simp only [hk2])
    go_ret
    exact ⟨rfl, rfl⟩
  · rw [hb] at hk
    have hk2 : bits .and .u64 ((x : Int) / 2 ^ i) 1 = 1 := by simpa using hk
    clear hk
    go_enter Tryz.func29, Tryz.ntmps29
    go_wp2_with (simp only [hk2])
    go_ret
    exact ⟨rfl, rfl⟩

end Go.Proofs.YtlddoookojjleaaGreatDoor
