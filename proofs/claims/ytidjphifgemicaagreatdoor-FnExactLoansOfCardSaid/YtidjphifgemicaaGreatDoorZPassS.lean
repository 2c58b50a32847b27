/-
  What flows forth through a point, by the program.
-/
import Derived.Test.YtidjphifgemicaaGreatDoorZFlowsK
import Derived.Test.YtidjphifgemicaaGreatDoorZMem
namespace Go.Proofs.YtidjphifgemicaaGreatDoor
open Go.RowKit Go.Deep
set_option linter.unusedVariables false

theorem sub_lt64' {x z y : Nat} (hx : x < 64) (hzl : z < 18446744073709551616) (h : ∀ k, k < 64 → z.testBit k = (x.testBit k && !y.testBit k)) : z < 64 := by
  refine Nat.lt_pow_two_of_testBit (n := 6) z fun i hi => ?_
  by_cases h6 : i < 64
  · rw [h i h6, Nat.testBit_lt_two_pow (Nat.lt_of_lt_of_le hx (Nat.pow_le_pow_right (by decide) hi : 2 ^ 6 ≤ 2 ^ i))]
    rfl
  · exact Nat.testBit_lt_two_pow (Nat.lt_of_lt_of_le (by omega : z < 2 ^ 64) (Nat.pow_le_pow_right (by decide) (by omega)))

set_option maxHeartbeats 2000000 in
theorem setBehind_may (ts : List Int) (ns : List Nd) (C F hi : Nat) (A : Option Addr) (c : Nat) (ah bk : Nat → Nat) (k x : Nat) (d : Nd) (w : World) (h : FlowsIn ts ns C F hi A c ah bk w) (hd : ns[k]? = some d) (he : EfOk ts d (effD ts d)) (hx : x < 64) :
    Calls Tryz.prog 120 #[.pointer (some ⟨F, 0, none⟩), .int .i64 k, .int .u64 x] w fun E w' => ∃ y : Nat, E = .returned (.int .u64 y) ∧ y < 64 ∧ (∀ v, v < 6 → (dv false y v ↔ setsN ns k v ∨ (dv false x v ∧ ¬ usesN ts ns k v 2))) ∧ Below w.heap.size w w' := by
  obtain ⟨e1, e2, e3, e4⟩ := h.effCell hd
  have hk61 : k < 61 := by have := h.gr.le; have := (List.getElem?_eq_some_iff.mp hd).1; omega
  have ki0 : (0 : Int) ≤ (k : Int) := by omega
  have ki1 : (k : Int) < 61 := by omega
  obtain ⟨z, hz, hzl, hzb⟩ := bits_andNot_u64 x (effD ts d).t (by omega) (by have := he.tlt; omega)
  have hz64 : z < 64 := sub_lt64' hx hzl hzb
  have hs := he.slt
  have hor := bits_or_u64_nat z (effD ts d).s (by omega) (by omega)
  have hiff := fun v hv => behind_may hd he (x := x) (z := z) hzb v hv
  clear h hd he
  have HIFF := Lib.hid hiff
  clear hiff
  go_enter Tryz.func120, Tryz.ntmps120
  go_wp2_with (simp only [hz, hor])
  go_ret
  have hbw : ∀ o : Obj, Below w.heap.size w (w.alloc o) := fun o => (Below.refl w.heap.size w).alloc (Nat.le_refl _) o
  exact ⟨_, rfl, Nat.or_lt_two_pow (n := 6) hz64 hs, HIFF.out, by first | exact hbw _ | exact (hbw _).drew⟩

set_option maxHeartbeats 2000000 in
theorem setBehind_miss (ts : List Int) (ns : List Nd) (C F hi : Nat) (A : Option Addr) (c : Nat) (ah bk : Nat → Nat) (k x : Nat) (d : Nd) (w : World) (h : FlowsIn ts ns C F hi A c ah bk w) (hd : ns[k]? = some d) (he : EfOk ts d (effD ts d)) (hx : x < 64) :
    Calls Tryz.prog 120 #[.pointer (some ⟨F, 0, none⟩), .int .i64 k, .int .u64 x] w fun E w' => ∃ y : Nat, E = .returned (.int .u64 y) ∧ y < 64 ∧ (∀ v, v < 6 → (dv true y v ↔ (usesN ts ns k v 2 ∧ ¬ setsN ns k v) ∨ (dv true x v ∧ ¬ setsN ns k v))) ∧ Below w.heap.size w w' := by
  obtain ⟨e1, e2, e3, e4⟩ := h.effCell hd
  have hk61 : k < 61 := by have := h.gr.le; have := (List.getElem?_eq_some_iff.mp hd).1; omega
  have ki0 : (0 : Int) ≤ (k : Int) := by omega
  have ki1 : (k : Int) < 61 := by omega
  obtain ⟨z, hz, hzl, hzb⟩ := bits_andNot_u64 x (effD ts d).t (by omega) (by have := he.tlt; omega)
  have hz64 : z < 64 := sub_lt64' hx hzl hzb
  have hs := he.slt
  have hor := bits_or_u64_nat z (effD ts d).s (by omega) (by omega)
  have hiff := fun v hv => behind_miss hd he (x := x) (z := z) hzb v hv
  clear h hd he
  have HIFF := Lib.hid hiff
  clear hiff
  go_enter Tryz.func120, Tryz.ntmps120
  go_wp2_with (simp only [hz, hor])
  go_ret
  have hbw : ∀ o : Obj, Below w.heap.size w (w.alloc o) := fun o => (Below.refl w.heap.size w).alloc (Nat.le_refl _) o
  exact ⟨_, rfl, Nat.or_lt_two_pow (n := 6) hz64 hs, HIFF.out, by first | exact hbw _ | exact (hbw _).drew⟩

end Go.Proofs.YtidjphifgemicaaGreatDoor
