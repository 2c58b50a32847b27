/-
  What a function of a program answers: the points of which something holds. Plain.
-/
import Derived.Test.YtbffldgiccijlaaGreatDoorZMem
namespace Go.Proofs.YtbffldgiccijlaaGreatDoor
set_option linter.unusedVariables false

/-- A point uses a variable that need not have a value. -/
def UnU (ts : List Int) (ns : List Nd) (k : Nat) : Prop := k < ns.length ∧ ∃ (v : Nat) (d : Nd), ns[k]? = some d ∧ useI ts d v ≠ 0 ∧ MissB ts ns k v

def AnsL (R : List Nd → Nat → Prop) (ok : Bool) (s : Sts) (l : List Int) : Prop := (ok = true ∧ IsPathsB (R (progPts s)) l) ∨ (ok = false ∧ l = [])

theorem AnsL.unique {R : List Nd → Nat → Prop} {ok : Bool} {s : Sts} {l m : List Int} (h : AnsL R ok s l) (k : AnsL R ok s m) : l = m := by
  rcases h with ⟨h1, h2⟩ | ⟨h1, h2⟩
  · rcases k with ⟨_, k2⟩ | ⟨k1, _⟩
    · exact h2.unique k2
    · rw [h1] at k1; cases k1
  · rcases k with ⟨k1, _⟩ | ⟨_, k2⟩
    · rw [h1] at k1; cases k1
    · rw [h2, k2]

theorem AnsL.length {R : List Nd → Nat → Prop} {ok : Bool} {s : Sts} {l : List Int} (h : AnsL R ok s l) : l.length ≤ 64 := by
  rcases h with ⟨_, p, rfl, _⟩ | ⟨_, rfl⟩
  · have := List.length_filter_le p (List.range 64)
    simpa using this
  · simp

end Go.Proofs.YtbffldgiccijlaaGreatDoor
