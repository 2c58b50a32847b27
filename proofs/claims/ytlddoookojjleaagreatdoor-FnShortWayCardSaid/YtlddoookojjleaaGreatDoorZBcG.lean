/-
  The laws' comparison of lists of numbers.
  The laws' look into a list of numbers.
-/
import Derived.Test.YtlddoookojjleaaGreatDoorZDwA
import Derived.Deep.QuietTactic
import Derived.BigQuiet
namespace Go.Proofs.YtlddoookojjleaaGreatDoor
open Go.RowKit Go.Deep
set_option linter.unusedVariables false

/-- Lists that are alike up to an index. -/
def Alike (xs ys : List Int) (k : Nat) : Prop := ∀ j, j < k → xs[j]? = ys[j]?

theorem Alike.all {xs ys : List Int} (h : Alike xs ys xs.length) (hl : xs.length = ys.length) : xs = ys := by
  apply List.ext_getElem? 
  intro j
  by_cases hj : j < xs.length
  · exact h j hj
  · rw [List.getElem?_eq_none (by omega), List.getElem?_eq_none (by omega)]

set_option maxHeartbeats 400000 in
theorem bcInts_any (xs ys : List Int) (A A' : Option Addr) (c c' : Nat) (w : World) (hR : IntsV w 0 w.heap.size xs A c) (hR' : IntsV w 0 w.heap.size ys A' c') :
    Calls Tryz.prog 7 #[.slice A xs.length c, .slice A' ys.length c'] w fun e w' => e = .returned (.bool (decide (xs = ys))) ∧ Below w.heap.size w w' := by
  have hm := hR.2.1
  have hlc := hR.1
  have hm' := hR'.2.1
  have hlc' := hR'.1
  unfold maxLen at hm hm'
  by_cases hl : xs.length = ys.length
  · have H := Lib.hid hR
    have H' := Lib.hid hR'
    have HL := Lib.hid hl
    have hle : xs.length ≤ ys.length := Nat.le_of_eq hl
    have hne : ((xs.length : Int) != (ys.length : Int)) = false := by simp; omega
    clear hl hR hR'
    go_enter Tryz.func7, Tryz.ntmps7
    go_wp2_with fail
    go_loopw [5] (fun i wr => ∃ k : Nat, k ≤ xs.length ∧ i = .int .i64 k ∧ Hid (Alike xs ys k) ∧ Below w.heap.size w wr) (fun i _ => xs.length - (intOf i).toNat)
    case atStart => exact ⟨0, Nat.zero_le _, rfl, fun j hj => absurd hj (by omega), Below.refl _ _⟩
    case round =>
      obtain ⟨k, hk, rfl, hA, hb⟩ := hrel
      by_cases hlt : k < xs.length
      · obtain ⟨b, v, rfl, -, hbb, hx, hc⟩ := (H.out.below hb hb.size).elem hlt
        obtain ⟨b', v', rfl, -, hbb', hx', hc'⟩ := (H'.out.below hb hb.size).elem (show k < ys.length by omega)
        have hlt' : k < ys.length := by omega
        by_cases hv : v = v'
        · subst hv
          have hA2 : Hid (Alike xs ys (k + 1)) := by
            intro j hj
            by_cases e : j = k
            · subst e; rw [hx, hx']
            · exact hA.out j (by omega)
          have hnv : ((v != v) : Bool) = false := by simp
          clear hx hx' hA
          go_wp2_with fail
          go_quiet (fail)
          go_wp2_with fail
          go_roundw
          case rel => exact ⟨k + 1, by omega, by go_num, hA2, hb.trans ⟨rfl, rfl, rfl, Nat.le_refl _, fun _ _ => rfl⟩⟩
          case measure => simp [intOf]; omega
        · have hnv : ((v != v') : Bool) = true := by simpa using hv
          have hdec : Hid (decide (xs = ys) = false) := by
            refine decide_eq_false fun e => hv ?_
            rw [e, hx'] at hx
            injection hx with hx
            exact hx.symm
          clear hx hx' hA hv
          go_wp2_with fail
          go_quiet (fail)
          go_wp2_with fail
          go_ret
          exact ⟨by rw [hdec.out]; rfl, hb.trans ⟨rfl, rfl, rfl, Nat.le_refl _, fun _ _ => rfl⟩⟩
      · have hdec : Hid (decide (xs = ys) = true) := decide_eq_true ((show Alike xs ys xs.length by have := hA.out; rwa [show k = xs.length from by omega] at this).all HL.out)
        go_wp2_with fail
        go_ret
        exact ⟨by rw [hdec.out]; rfl, hb⟩
  · have hdec : Hid (decide (xs = ys) = false) := decide_eq_false fun e => hl (by rw [e])
    have hne : ((xs.length : Int) != (ys.length : Int)) = true := by simp; omega
    clear hl
    go_enter Tryz.func7, Tryz.ntmps7
    go_wp2_with fail
    go_ret
    exact ⟨by rw [hdec.out]; rfl, Below.refl _ _⟩

theorem IntsV.front {w : World} {lo hi : Nat} {xs r : List Int} {A : Option Addr} {c : Nat} (h : IntsV w lo hi (xs ++ r) A c) : IntsV w lo hi xs A c := by
  have hl : (xs ++ r).length = xs.length + r.length := List.length_append
  refine ⟨by have := h.1; omega, h.2.1, fun h0 => ?_⟩
  obtain ⟨b, rfl, h1, h2, h3⟩ := h.2.2 (by omega)
  exact ⟨b, rfl, h1, h2, fun j v hv => h3 j v (by rw [List.getElem?_append_left (List.getElem?_eq_some_iff.1 hv).1]; exact hv)⟩

end Go.Proofs.YtlddoookojjleaaGreatDoor

namespace Go.Proofs.YtlddoookojjleaaGreatDoor
open Go.RowKit Go.Deep
set_option linter.unusedVariables false

/-- A number is not among the first ones. -/
def NotYet (xs : List Int) (n : Int) (k : Nat) : Prop := ∀ j, j < k → xs[j]? ≠ some n

set_option maxHeartbeats 400000 in
theorem bcIn_any (xs : List Int) (n : Int) (A : Option Addr) (c : Nat) (w : World) (hR : IntsV w 0 w.heap.size xs A c) :
    Calls Tryz.prog 8 #[.slice A xs.length c, .int .i64 n] w fun e w' => e = .returned (.bool (decide (n ∈ xs))) ∧ Below w.heap.size w w' := by
  have hm := hR.2.1
  have hlc := hR.1
  unfold maxLen at hm
  have H := Lib.hid hR
  clear hR
  go_enter Tryz.func8, Tryz.ntmps8
  go_wp2_with fail
  go_loopw [5] (fun i wr => ∃ k : Nat, k ≤ xs.length ∧ i = .int .i64 k ∧ Hid (NotYet xs n k) ∧ Below w.heap.size w wr) (fun i _ => xs.length - (intOf i).toNat)
  case atStart => exact ⟨0, Nat.zero_le _, rfl, fun j hj => absurd hj (by omega), Below.refl _ _⟩
  case round =>
    obtain ⟨k, hk, rfl, hA, hb⟩ := hrel
    by_cases hlt : k < xs.length
    · obtain ⟨b, v, rfl, -, hbb, hx, hc⟩ := (H.out.below hb hb.size).elem hlt
      by_cases hv : v = n
      · subst hv
        have hnv : ((v == v) : Bool) = true := by simp
        have hdec : Hid (decide (v ∈ xs) = true) := decide_eq_true (List.mem_of_getElem? hx)
        clear hx hA
        go_wp2_with fail
        go_ret
        exact ⟨by rw [hdec.out]; rfl, hb⟩
      · have hnv : ((v == n) : Bool) = false := by simpa using hv
        have hA2 : Hid (NotYet xs n (k + 1)) := by
          intro j hj
          by_cases e : j = k
          · subst e; rw [hx]; intro e; injection e with e; exact hv e
          · exact hA.out j (by omega)
        clear hx hA hv
        go_wp2_with fail
        go_roundw
        case rel => exact ⟨k + 1, by omega, by go_num, hA2, hb⟩
        case measure => simp [intOf]; omega
    · have hdec : Hid (decide (n ∈ xs) = false) := decide_eq_false fun e => by
        obtain ⟨j, hj, hje⟩ := List.getElem_of_mem e
        exact hA.out j (by omega) (by rw [List.getElem?_eq_getElem hj, hje])
      go_wp2_with fail
      go_ret
      exact ⟨by rw [hdec.out]; rfl, hb⟩

end Go.Proofs.YtlddoookojjleaaGreatDoor
