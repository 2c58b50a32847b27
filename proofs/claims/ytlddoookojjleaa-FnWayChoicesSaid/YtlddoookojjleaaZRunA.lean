/-
  The first choice of a run.
-/
import Derived.Test.YtlddoookojjleaaZCopy0
import Derived.Deep.RegionWith
namespace Go.Proofs.Ytlddoookojjleaa
open Go.RowKit Go.Deep
set_option linter.unusedVariables false

theorem firstChoice_nil (A : Option Addr) (c : Nat) (w : World) : Calls Try.prog 65 #[.slice A 0 c] w fun E w' => E = .returned (.tuple #[.int .i64 1, .slice none 0 0]) ∧ Below w.heap.size w w' := by
  go_enter Try.func65, Try.ntmps65
  go_wp2_with fail
  go_ret2
  exact ⟨rfl, Below.refl _ _⟩

theorem and_one (x : Int) : bits BinOp.and IntKind.i64 x 1 = x % 2 := by
  have h : (BitVec.ofInt 64 x &&& BitVec.ofInt 64 1).toNat = (x % 2).toNat := by
    rw [BitVec.toNat_and, show (BitVec.ofInt 64 1).toNat = 1 from rfl, Nat.and_one_is_mod, BitVec.toNat_ofInt]
    omega
  show IntKind.i64.wrap ((BitVec.ofInt 64 x &&& BitVec.ofInt 64 1).toNat : Int) = x % 2
  rw [h]
  rcases Int.emod_two_eq x with e | e <;> rw [e] <;> rfl

theorem ret_two {a b c d : Value} (h : a = b) (k : c = d) : Ending.returned (.tuple #[a, c]) = .returned (.tuple #[b, d]) := by rw [h, k]

set_option maxRecDepth 100000 in
set_option maxHeartbeats 4000000 in
theorem firstChoice_cons (b : Addr) (x : Int) (n c : Nat) (w : World) (hc : n + 1 ≤ c) (hm : c ≤ maxLen) (hx : w.cell? b = some (.int .i64 x)) :
    Calls Try.prog 65 #[.slice (some b) (n + 1) c] w fun E w' => (∃ z A', E = .returned (.tuple #[.int .i64 z, .slice A' n (c - 1)]) ∧ z = x % 2 ∧ (0 < n → A' = some (b.add 1))) ∧ Below w.heap.size w w' := by
  unfold maxLen at hm
  have hx0 : w.cell? (b.add 0) = some (.int .i64 x) := by simpa [Addr.add] using hx
  obtain ⟨A', hA⟩ : ∃ A', A' = (if c = 1 then some b else (some b).map (·.add (1 * 1))) := ⟨_, rfl⟩
  have hsl : ∀ W, (Instr.sliceAt 22 (.slice (some b) (n + 1) c) (some (.int .i64 1)) none none).run Try.prog W = .ok (.slice A' n (c - 1)) W := by
    intro W
    have he : Try.prog.elem 22 = 3 := by kernel_rfl
    have hz : (sizeOf 3).run Try.prog W = .ok 1 W := by first | exact Try.sizeOf3 W | simp [Try.sizeOf3] | kernel_rfl
    rw [run_sliceAt_slice W 22 _ _ _ _ (by kernel_rfl), run_slice_l W 22 (some b) (n + 1) c (by kernel_rfl) .i64 1 (by omega) (by omega), he, hz]
    simp [sliced, hA]
  have hfin : Hid (0 < n → A' = some (b.add 1)) := by
    intro h
    rw [hA, if_neg (by omega)]
    rfl
  clear hA
  go_enter Try.func65, Try.ntmps65
  go_wp2_with fail
  go_region_with (fail)
  go_wp2_with fail
  have hbits : bits BinOp.and IntKind.i64 x 1 = x % 2 := and_one x
  rw [hbits]
  go_ret2
  exact ⟨⟨x % 2, A', rfl, rfl, hfin.out⟩, by first | exact Below.refl _ _ | exact (Below.refl _ _).drew⟩

end Go.Proofs.Ytlddoookojjleaa
