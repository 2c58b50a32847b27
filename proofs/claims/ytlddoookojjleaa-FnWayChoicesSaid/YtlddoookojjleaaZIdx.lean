/-
  slices.Index on numbers.
-/
import Derived.Test.YtlddoookojjleaaZBase
import Derived.Test.YtlddoookojjleaaZMem
import Derived.WalkKit
import Derived.WalkSpells
namespace Go.Proofs.Ytlddoookojjleaa
open Go.RowKit Go.Deep
set_option linter.unusedVariables false

/-- Where a number is first, or -1. -/
def idxI : List Int → Int → Nat → Int
  | [], _, _ => -1
  | y :: ys, x, k => if y = x then (k : Int) else idxI ys x (k + 1)

theorem idxI_ge (ys : List Int) (x : Int) : ∀ k, (0 ≤ idxI ys x k) ↔ x ∈ ys := by
  induction ys with
  | nil => intro k; simp [idxI]
  | cons y ys ih =>
    intro k
    unfold idxI
    by_cases h : y = x
    · simp [h]
    · rw [if_neg h, ih (k + 1)]
      simp [Ne.symm h]

theorem drop_get {α : Type} {l : List α} {k : Nat} {v : α} (h : l[k]? = some v) : l.drop k = v :: l.drop (k + 1) := by
  have hk := (List.getElem?_eq_some_iff.1 h).1
  have := List.drop_eq_getElem_cons hk
  rw [this, (List.getElem?_eq_some_iff.1 h).2]

set_option maxHeartbeats 1000000 in
theorem index_any (xs : List Int) (x : Int) (A : Option Addr) (c : Nat) (w : World) (hl : xs.length ≤ 100) (hT : IntsV w 0 w.heap.size xs A c) :
    Calls Try.prog 59 #[.slice A xs.length c, .int .i64 x] w fun E w' => E = .returned (.int .i64 (idxI xs x 0)) ∧ w = w' := by
  have hlc := hT.1
  have hcm := hT.2.1
  unfold maxLen at hcm
  have HT := Lib.hid hT
  obtain ⟨n, hn⟩ : ∃ n, xs.length = n := ⟨_, rfl⟩
  have HN := Lib.hid hn
  obtain ⟨R, hR⟩ : ∃ R, idxI xs x 0 = R := ⟨_, rfl⟩
  have h0 : Hid (idxI (xs.drop 0) x 0 = R) := hR
  rw [hn] at hlc hl ⊢
  rw [hR]
  clear hT hn hR
  go_enter Try.func59, Try.ntmps59
  go_wp2_with fail
  go_loop [8] (fun i => ∃ j : Nat, j ≤ n ∧ i = .int .i64 j ∧ Hid (idxI (xs.drop j) x j = R)) (fun i => n - (intOf i).toNat)
  case atStart => exact ⟨0, Nat.zero_le _, rfl, h0⟩
  case round =>
    clear h0
    obtain ⟨j, hj, rfl, hI⟩ := hrel
    by_cases hlt : j < n
    · obtain ⟨b, v, rfl, -, hbb, hx, hc⟩ := HT.out.elem (k := j) (by rw [HN.out]; exact hlt)
      have hI2 := hI.out
      rw [drop_get hx] at hI2
      unfold idxI at hI2
      have HX := Lib.hid hx
      clear hx hI
      by_cases hv : v = x
      · rw [if_pos hv] at hI2
        subst hv
        have HI2 := Lib.hid hI2
        clear hI2
        go_wp2_with fail
        go_ret
        exact ⟨by rw [← HI2.out]; rfl, rfl⟩
      · rw [if_neg hv] at hI2
        have HI2 := Lib.hid hI2
        have hv2 : ¬ x = v := fun e => hv e.symm
        clear hI2
        go_wp2_with fail
        go_round
        case rel => exact ⟨j + 1, by omega, by go_num, HI2⟩
        case measure => simp [intOf]; omega
    · obtain rfl : j = n := by omega
      have hI2 : Hid (R = -1) := by
        unfold Hid
        have h := hI.out
        rw [← HN.out, List.drop_length] at h
        exact h.symm
      clear hI
      go_wp2_with fail
      go_ret
      exact ⟨by rw [hI2.out]; rfl, rfl⟩

end Go.Proofs.Ytlddoookojjleaa
