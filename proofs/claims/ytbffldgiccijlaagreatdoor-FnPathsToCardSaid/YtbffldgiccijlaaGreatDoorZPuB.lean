/-
  A search through the first numbers, as a truth value: plain. And where a point leads.
-/
import Derived.Test.YtbffldgiccijlaaGreatDoorZPuA
namespace Go.Proofs.YtbffldgiccijlaaGreatDoor
open Go.RowKit Go.Deep
set_option linter.unusedVariables false

/-- One of the first numbers is so. -/
def anyB (f : Nat → Bool) (x : Nat) : Bool := (List.range x).any f

theorem anyB_zero (f : Nat → Bool) : anyB f 0 = false := rfl

theorem anyB_succ (f : Nat → Bool) (x : Nat) : anyB f (x + 1) = (anyB f x || f x) := by
  unfold anyB
  rw [List.range_succ, List.any_append]
  simp

theorem anyB_iff (f : Nat → Bool) (x : Nat) : anyB f x = true ↔ ∃ j, j < x ∧ f j = true := by
  unfold anyB
  rw [List.any_eq_true]
  constructor
  · rintro ⟨j, h1, h2⟩; exact ⟨j, List.mem_range.1 h1, h2⟩
  · rintro ⟨j, h1, h2⟩; exact ⟨j, List.mem_range.2 h1, h2⟩

theorem mem_nextN_at {ns : List Nd} {a : Nat} {d : Nd} (h : ns[a]? = some d) {v : Nat} (hv : (v : Int) ∈ d.next) : v ∈ nextN ns a := by
  unfold nextN
  rw [nextP_some h, List.mem_map]
  exact ⟨(v : Int), hv, by simp⟩

/-- The next points of a point of a right program are numbers of its points. -/
theorem prog_next {s : Sts} {j : Nat} {d : Nd} {z : Int} (hd : (progPts s)[j]? = some d) (hz : z ∈ d.next) : 0 ≤ z ∧ z < ((progPts s).length : Int) := by
  unfold progPts at hd
  by_cases hj : j < (s.pts 0).length
  · rw [List.getElem?_append_left hj] at hd
    have h := (s.pts_ok 0 d (List.mem_of_getElem? hd)).2.2 z hz
    rw [progPts_len]
    omega
  · rw [List.getElem?_append_right (by omega)] at hd
    have hm := List.mem_of_getElem? hd
    simp only [List.mem_cons, List.not_mem_nil, or_false] at hm
    subst hm
    cases hz

theorem eN_iff {ns : List Nd} {a : Nat} {d : Nd} (h : ns[a]? = some d) (hp : ∀ z ∈ d.next, (0 : Int) ≤ z) (b : Nat) : eN ns a b ↔ (b : Int) ∈ d.next := by
  unfold eN
  constructor
  · intro hb
    unfold nextN at hb
    rw [nextP_some h, List.mem_map] at hb
    obtain ⟨z, hz, e⟩ := hb
    have := hp z hz
    rw [show (b : Int) = z by omega]
    exact hz
  · exact mem_nextN_at h

theorem eN_lt {s : Sts} {a b : Nat} (h : eN (progPts s) a b) : a < (progPts s).length ∧ b < (progPts s).length := by
  by_cases ha : a < (progPts s).length
  · have hd := List.getElem?_eq_getElem ha
    rw [eN_iff hd fun z hz => (prog_next hd hz).1] at h
    have := (prog_next hd h).2
    exact ⟨ha, by omega⟩
  · have : (progPts s)[a]? = none := List.getElem?_eq_none (by omega)
    unfold eN nextN nextP at h
    rw [this] at h
    simp at h

end Go.Proofs.YtbffldgiccijlaaGreatDoor
