/-
  The laws' look into a list of numbers.
-/
import Derived.Test.YtbffldgiccijlaaDoorZDwA
import Derived.Deep.QuietTactic
import Derived.BigQuiet
namespace Go.Proofs.YtbffldgiccijlaaDoor
open Go.RowKit Go.Deep
set_option linter.unusedVariables false

/-- A number is not among the first ones. -/
def NotYet (xs : List Int) (n : Int) (k : Nat) : Prop := ∀ j, j < k → xs[j]? ≠ some n

set_option maxHeartbeats 400000 in
theorem bcIn_any (xs : List Int) (n : Int) (A : Option Addr) (c : Nat) (w : World) (hR : IntsV w 0 w.heap.size xs A c) :
    Calls Tryd.prog 9 #[.slice A xs.length c, .int .i64 n] w fun e w' => e = .returned (.bool (decide (n ∈ xs))) ∧ Below w.heap.size w w' := by
  have hm := hR.2.1
  have hlc := hR.1
  unfold maxLen at hm
  have H := Lib.hid hR
  clear hR
  go_enter Tryd.func9, Tryd.ntmps9
  go_wp2_with fail
  go_loopw [5] (fun i wr => ∃ k : Nat, k ≤ xs.length ∧ i = .int .i64 k ∧ Hid (NotYet xs n k) ∧ Below w.heap.size w wr) (fun i _ => xs.length - (intOf i).toNat)
  case atStart => exact ⟨0, Nat.zero_le _, rfl, fun j hj => absurd hj (by omega), Below.refl _ _⟩
  case round =>
    obtain ⟨k, hk, rfl, hA, hb⟩ := hrel
    by_cases hlt : k < xs.length
    · obtain ⟨b, v, rfl, -, hbb, hx, hc⟩ := (H.out.below hb hb.size).elem hlt
      by_cases hv : v = n
      · subst hv
        have hnv : ((v == v) : Bool) = true := by simp
        have hdec : Hid (decide (v ∈ xs) = true) := decide_eq_true (List.mem_of_getElem? hx)
        clear hx hA
        go_wp2_with fail
        go_ret
        exact ⟨by rw [hdec.out]; rfl, hb⟩
      · have hnv : ((v == n) : Bool) = false := by simpa using hv
        have hA2 : Hid (NotYet xs n (k + 1)) := by
          intro j hj
          by_cases e : j = k
          · subst e; rw [hx]; intro e; injection e with e; exact hv e
          · exact hA.out j (by omega)
        clear hx hA hv
        go_wp2_with fail
        go_roundw
        case rel => exact ⟨k + 1, by omega, by go_num, hA2, hb⟩
        case measure => simp [intOf]; omega
    · have hdec : Hid (decide (n ∈ xs) = false) := decide_eq_false fun e => by
        obtain ⟨j, hj, hje⟩ := List.getElem_of_mem e
        exact hA.out j (by omega) (by rw [List.getElem?_eq_getElem hj, hje])
      go_wp2_with fail
      go_ret
      exact ⟨by rw [hdec.out]; rfl, hb⟩

end Go.Proofs.YtbffldgiccijlaaDoor
