/-
  What a function of a program answers: the points of which something holds. Plain.
  What the flows of a program say of each other: plain. For the drawn laws of chapter 3.
-/
import Derived.Test.YtbffldgiccijlaaDoorZMem
namespace Go.Proofs.YtbffldgiccijlaaDoor
set_option linter.unusedVariables false

/-- A point uses a variable that need not have a value. -/
def UnU (ts : List Int) (ns : List Nd) (k : Nat) : Prop := k < ns.length ∧ ∃ (v : Nat) (d : Nd), ns[k]? = some d ∧ useI ts d v ≠ 0 ∧ MissB ts ns k v

def AnsL (R : List Nd → Nat → Prop) (ok : Bool) (s : Sts) (l : List Int) : Prop := (ok = true ∧ IsPathsB (R (progPts s)) l) ∨ (ok = false ∧ l = [])

theorem AnsL.unique {R : List Nd → Nat → Prop} {ok : Bool} {s : Sts} {l m : List Int} (h : AnsL R ok s l) (k : AnsL R ok s m) : l = m := by
  rcases h with ⟨h1, h2⟩ | ⟨h1, h2⟩
  · rcases k with ⟨_, k2⟩ | ⟨k1, _⟩
    · exact h2.unique k2
    · rw [h1] at k1; cases k1
  · rcases k with ⟨k1, _⟩ | ⟨_, k2⟩
    · rw [h1] at k1; cases k1
    · rw [h2, k2]

theorem AnsL.length {R : List Nd → Nat → Prop} {ok : Bool} {s : Sts} {l : List Int} (h : AnsL R ok s l) : l.length ≤ 64 := by
  rcases h with ⟨_, p, rfl, _⟩ | ⟨_, rfl⟩
  · have := List.length_filter_le p (List.range 64)
    simpa using this
  · simp

end Go.Proofs.YtbffldgiccijlaaDoor

namespace Go.Proofs.YtbffldgiccijlaaDoor
open Go.RowKit Go.Deep
set_option linter.unusedVariables false

theorem isPathsB_mem {R : Nat → Prop} {l : List Int} (h : IsPathsB R l) (v : Int) : v ∈ l ↔ ∃ k : Nat, v = (k : Int) ∧ R k := by
  obtain ⟨p, rfl, hp⟩ := h
  simp only [List.mem_map, List.mem_filter, List.mem_range]
  constructor
  · rintro ⟨k, ⟨h1, h2⟩, rfl⟩
    exact ⟨k, rfl, (hp k).1 ⟨h1, h2⟩⟩
  · rintro ⟨k, rfl, hk⟩
    obtain ⟨h1, h2⟩ := (hp k).2 hk
    exact ⟨k, ⟨h1, h2⟩, rfl⟩

theorem AnsAt.mem {R : List Nd → Nat → Nat → Prop} {ok : Bool} {s : Sts} {a : Int} {l : List Int} (h : AnsAt R ok s a l) (v : Int) : v ∈ l ↔ (ok = true ∧ 0 ≤ a ∧ a < ((progPts s).length : Int) ∧ ∃ k : Nat, v = (k : Int) ∧ R (progPts s) a.toNat k) := by
  rcases h with ⟨h1, h2, h3, h4⟩ | ⟨h1, rfl⟩
  · rw [isPathsB_mem h4]
    exact ⟨fun h => ⟨h1, h2, h3, h⟩, fun h => h.2.2.2⟩
  · constructor
    · intro h; cases h
    · rintro ⟨a1, a2, a3, -⟩; exact absurd ⟨a1, a2, a3⟩ h1

theorem AnsL.mem {R : List Nd → Nat → Prop} {ok : Bool} {s : Sts} {l : List Int} (h : AnsL R ok s l) (v : Int) : v ∈ l ↔ (ok = true ∧ ∃ k : Nat, v = (k : Int) ∧ R (progPts s) k) := by
  rcases h with ⟨h1, h4⟩ | ⟨h1, rfl⟩
  · rw [isPathsB_mem h4]
    exact ⟨fun h => ⟨h1, h⟩, fun h => h.2⟩
  · constructor
    · intro h; cases h
    · rintro ⟨a1, -⟩; rw [h1] at a1; cases a1

/-- Every point that a program has can be come to from the first. -/
theorem progPts_pos (s : Sts) : 0 < (progPts s).length := by rw [progPts_len]; omega

/-- One step of liveness. -/
theorem liveB_step (ts : List Int) (ns : List Nd) (m v : Nat) : LiveB ts ns m v ↔ ∃ k, eN ns m k ∧ ((∃ d, ns[k]? = some d ∧ useI ts d v ≠ 0) ∨ (LiveB ts ns k v ∧ ¬ setsN ns k v)) := by
  constructor
  · intro h
    cases h with
    | start h => exact h.elim
    | gen h1 h2 => exact ⟨_, h1, .inl h2⟩
    | keep h1 h2 h3 => exact ⟨_, h1, .inr ⟨h2, h3⟩⟩
  · rintro ⟨k, h1, h2 | ⟨h2, h3⟩⟩
    · exact .gen h1 h2
    · exact .keep h1 h2 h3

/-- A value that is missing before a point and live there is used without one. -/
theorem live_miss {ts : List Int} {ns : List Nd} (hlt : ∀ a b, eN ns a b → b < ns.length) {m v : Nat} (h : LiveB ts ns m v) (hm : ∀ k, eN ns m k → MissB ts ns k v) : ∃ k, UnU ts ns k := by
  induction h with
  | start h => exact h.elim
  | gen h1 h2 =>
    rename_i k m v
    obtain ⟨d, hd, hu⟩ := h2
    exact ⟨k, hlt _ _ h1, v, d, hd, hu, hm k h1⟩
  | keep h1 h2 h3 ih =>
    rename_i k m v
    exact ih fun j hj => .keep hj (hm k h1) h3

end Go.Proofs.YtbffldgiccijlaaDoor
