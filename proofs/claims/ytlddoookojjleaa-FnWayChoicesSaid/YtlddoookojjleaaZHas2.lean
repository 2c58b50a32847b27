/-
  Whether a number is among others, by the model: l2Has.
-/
import Derived.Test.YtlddoookojjleaaZIdx
namespace Go.Proofs.Ytlddoookojjleaa
open Go.RowKit Go.Deep
set_option linter.unusedVariables false

set_option maxHeartbeats 1000000 in
theorem l2Has_ints (xs : List Int) (x : Int) (A : Option Addr) (c : Nat) (w : World) (hl : xs.length ≤ 100) (hT : IntsV w 0 w.heap.size xs A c) :
    Calls Try.prog 37 #[.slice A xs.length c, .int .i64 x] w fun E w' => E = .returned (.bool (decide (x ∈ xs))) ∧ w = w' := by
  have hlc := hT.1
  have hcm := hT.2.1
  unfold maxLen at hcm
  have HT := Lib.hid hT
  obtain ⟨n, hn⟩ : ∃ n, xs.length = n := ⟨_, rfl⟩
  have HN := Lib.hid hn
  obtain ⟨R, hR⟩ : ∃ R, decide (x ∈ xs) = R := ⟨_, rfl⟩
  have h0 : Hid (decide (x ∈ xs.drop 0) = R) := hR
  rw [hn] at hlc hl ⊢
  rw [hR]
  clear hT hn hR
  go_enter Try.func37, Try.ntmps37
  go_wp2_with fail
  go_loop [5] (fun i => ∃ j : Nat, j ≤ n ∧ i = .int .i64 j ∧ Hid (decide (x ∈ xs.drop j) = R)) (fun i => n - (intOf i).toNat)
  case atStart => exact ⟨0, Nat.zero_le _, rfl, h0⟩
  case round =>
    clear h0
    obtain ⟨j, hj, rfl, hI⟩ := hrel
    by_cases hlt : j < n
    · obtain ⟨b, v, rfl, -, hbb, hx, hc⟩ := HT.out.elem (k := j) (by rw [HN.out]; exact hlt)
      have hI2 := hI.out
      rw [drop_get hx] at hI2
      have HX := Lib.hid hx
      clear hx hI
      by_cases hv : v = x
      · have HI2 : Hid (R = true) := by unfold Hid; rw [← hI2]; simp [hv]
        clear hI2
        subst hv
        go_wp2_with fail
        go_ret
        exact ⟨by rw [HI2.out]; rfl, rfl⟩
      · have HI2 : Hid (decide (x ∈ xs.drop (j + 1)) = R) := by
          unfold Hid
          rw [← hI2]
          simp [Ne.symm hv]
        clear hI2
        go_wp2_with fail
        go_round
        case rel => exact ⟨j + 1, by omega, by go_num, HI2⟩
        case measure => simp [intOf]; omega
    · obtain rfl : j = n := by omega
      have hI2 : Hid (R = false) := by
        unfold Hid
        have h := hI.out
        rw [← HN.out, List.drop_length] at h
        rw [← h]
        simp
      clear hI
      go_wp2_with fail
      go_ret
      exact ⟨by rw [hI2.out]; rfl, rfl⟩

end Go.Proofs.Ytlddoookojjleaa
