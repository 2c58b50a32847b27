/-
  What a function of a program answers: the points of which something holds. Plain.
  What the flows of a program say of each other: plain. For the drawn laws of chapter 3.
  A search through the first numbers, as a truth value: plain. And where a point leads.
-/
import Derived.Test.YtfkhgdbnjcdlmaaGreatDoorZMem
namespace Go.Proofs.YtfkhgdbnjcdlmaaGreatDoor
set_option linter.unusedVariables false

/-- A point uses a variable that need not have a value. -/
def UnU (ts : List Int) (ns : List Nd) (k : Nat) : Prop := k < ns.length ∧ ∃ (v : Nat) (d : Nd), ns[k]? = some d ∧ useI ts d v ≠ 0 ∧ MissB ts ns k v

def AnsL (R : List Nd → Nat → Prop) (ok : Bool) (s : Sts) (l : List Int) : Prop := (ok = true ∧ IsPathsB (R (progPts s)) l) ∨ (ok = false ∧ l = [])

theorem AnsL.unique {R : List Nd → Nat → Prop} {ok : Bool} {s : Sts} {l m : List Int} (h : AnsL R ok s l) (k : AnsL R ok s m) : l = m := by
  rcases h with ⟨h1, h2⟩ | ⟨h1, h2⟩
  · rcases k with ⟨_, k2⟩ | ⟨k1, _⟩
    · exact h2.unique k2
    · rw [h1] at k1; cases k1
  · rcases k with ⟨k1, _⟩ | ⟨_, k2⟩
    · rw [h1] at k1; cases k1
    · rw [h2, k2]

theorem AnsL.length {R : List Nd → Nat → Prop} {ok : Bool} {s : Sts} {l : List Int} (h : AnsL R ok s l) : l.length ≤ 64 := by
  rcases h with ⟨_, p, rfl, _⟩ | ⟨_, rfl⟩
  · have := List.length_filter_le p (List.range 64)
    simpa using this
  · simp

end Go.Proofs.YtfkhgdbnjcdlmaaGreatDoor

namespace Go.Proofs.YtfkhgdbnjcdlmaaGreatDoor
open Go.RowKit Go.Deep
set_option linter.unusedVariables false

theorem isPathsB_mem {R : Nat → Prop} {l : List Int} (h : IsPathsB R l) (v : Int) : v ∈ l ↔ ∃ k : Nat, v = (k : Int) ∧ R k := by
  obtain ⟨p, rfl, hp⟩ := h
  simp only [List.mem_map, List.mem_filter, List.mem_range]
  constructor
  · rintro ⟨k, ⟨h1, h2⟩, rfl⟩
    exact ⟨k, rfl, (hp k).1 ⟨h1, h2⟩⟩
  · rintro ⟨k, rfl, hk⟩
    obtain ⟨h1, h2⟩ := (hp k).2 hk
    exact ⟨k, ⟨h1, h2⟩, rfl⟩

theorem AnsAt.mem {R : List Nd → Nat → Nat → Prop} {ok : Bool} {s : Sts} {a : Int} {l : List Int} (h : AnsAt R ok s a l) (v : Int) : v ∈ l ↔ (ok = true ∧ 0 ≤ a ∧ a < ((progPts s).length : Int) ∧ ∃ k : Nat, v = (k : Int) ∧ R (progPts s) a.toNat k) := by
  rcases h with ⟨h1, h2, h3, h4⟩ | ⟨h1, rfl⟩
  · rw [isPathsB_mem h4]
    exact ⟨fun h => ⟨h1, h2, h3, h⟩, fun h => h.2.2.2⟩
  · constructor
    · intro h; cases h
    · rintro ⟨a1, a2, a3, -⟩; exact absurd ⟨a1, a2, a3⟩ h1

theorem AnsL.mem {R : List Nd → Nat → Prop} {ok : Bool} {s : Sts} {l : List Int} (h : AnsL R ok s l) (v : Int) : v ∈ l ↔ (ok = true ∧ ∃ k : Nat, v = (k : Int) ∧ R (progPts s) k) := by
  rcases h with ⟨h1, h4⟩ | ⟨h1, rfl⟩
  · rw [isPathsB_mem h4]
    exact ⟨fun h => ⟨h1, h⟩, fun h => h.2⟩
  · constructor
    · intro h; cases h
    · rintro ⟨a1, -⟩; rw [h1] at a1; cases a1

/-- Every point that a program has can be come to from the first. -/
theorem progPts_pos (s : Sts) : 0 < (progPts s).length := by rw [progPts_len]; omega

/-- One step of liveness. -/
theorem liveB_step (ts : List Int) (ns : List Nd) (m v : Nat) : LiveB ts ns m v ↔ ∃ k, eN ns m k ∧ ((∃ d, ns[k]? = some d ∧ useI ts d v ≠ 0) ∨ (LiveB ts ns k v ∧ ¬ setsN ns k v)) := by
  constructor
  · intro h
    cases h with
    | start h => exact h.elim
    | gen h1 h2 => exact ⟨_, h1, .inl h2⟩
    | keep h1 h2 h3 => exact ⟨_, h1, .inr ⟨h2, h3⟩⟩
  · rintro ⟨k, h1, h2 | ⟨h2, h3⟩⟩
    · exact .gen h1 h2
    · exact .keep h1 h2 h3

/-- A value that is missing before a point and live there is used without one. -/
theorem live_miss {ts : List Int} {ns : List Nd} (hlt : ∀ a b, eN ns a b → b < ns.length) {m v : Nat} (h : LiveB ts ns m v) (hm : ∀ k, eN ns m k → MissB ts ns k v) : ∃ k, UnU ts ns k := by
  induction h with
  | start h => exact h.elim
  | gen h1 h2 =>
    rename_i k m v
    obtain ⟨d, hd, hu⟩ := h2
    exact ⟨k, hlt _ _ h1, v, d, hd, hu, hm k h1⟩
  | keep h1 h2 h3 ih =>
    rename_i k m v
    exact ih fun j hj => .keep hj (hm k h1) h3

end Go.Proofs.YtfkhgdbnjcdlmaaGreatDoor

namespace Go.Proofs.YtfkhgdbnjcdlmaaGreatDoor
open Go.RowKit Go.Deep
set_option linter.unusedVariables false

/-- One of the first numbers is so. -/
def anyB (f : Nat → Bool) (x : Nat) : Bool := (List.range x).any f

theorem anyB_zero (f : Nat → Bool) : anyB f 0 = false := rfl

theorem anyB_succ (f : Nat → Bool) (x : Nat) : anyB f (x + 1) = (anyB f x || f x) := by
  unfold anyB
  rw [List.range_succ, List.any_append]
  simp

theorem anyB_iff (f : Nat → Bool) (x : Nat) : anyB f x = true ↔ ∃ j, j < x ∧ f j = true := by
  unfold anyB
  rw [List.any_eq_true]
  constructor
  · rintro ⟨j, h1, h2⟩; exact ⟨j, List.mem_range.1 h1, h2⟩
  · rintro ⟨j, h1, h2⟩; exact ⟨j, List.mem_range.2 h1, h2⟩

theorem mem_nextN_at {ns : List Nd} {a : Nat} {d : Nd} (h : ns[a]? = some d) {v : Nat} (hv : (v : Int) ∈ d.next) : v ∈ nextN ns a := by
  unfold nextN
  rw [nextP_some h, List.mem_map]
  exact ⟨(v : Int), hv, by simp⟩

/-- The next points of a point of a right program are numbers of its points. -/
theorem prog_next {s : Sts} {j : Nat} {d : Nd} {z : Int} (hd : (progPts s)[j]? = some d) (hz : z ∈ d.next) : 0 ≤ z ∧ z < ((progPts s).length : Int) := by
  unfold progPts at hd
  by_cases hj : j < (s.pts 0).length
  · rw [List.getElem?_append_left hj] at hd
    have h := (s.pts_ok 0 d (List.mem_of_getElem? hd)).2.2 z hz
    rw [progPts_len]
    omega
  · rw [List.getElem?_append_right (by omega)] at hd
    have hm := List.mem_of_getElem? hd
    simp only [List.mem_cons, List.not_mem_nil, or_false] at hm
    subst hm
    cases hz

theorem eN_iff {ns : List Nd} {a : Nat} {d : Nd} (h : ns[a]? = some d) (hp : ∀ z ∈ d.next, (0 : Int) ≤ z) (b : Nat) : eN ns a b ↔ (b : Int) ∈ d.next := by
  unfold eN
  constructor
  · intro hb
    unfold nextN at hb
    rw [nextP_some h, List.mem_map] at hb
    obtain ⟨z, hz, e⟩ := hb
    have := hp z hz
    rw [show (b : Int) = z by omega]
    exact hz
  · exact mem_nextN_at h

theorem eN_both {s : Sts} {a b : Nat} (h : eN (progPts s) a b) : a < (progPts s).length ∧ b < (progPts s).length := by
  by_cases ha : a < (progPts s).length
  · have hd := List.getElem?_eq_getElem ha
    rw [eN_iff hd fun z hz => (prog_next hd hz).1] at h
    have := (prog_next hd h).2
    exact ⟨ha, by omega⟩
  · have : (progPts s)[a]? = none := List.getElem?_eq_none (by omega)
    unfold eN nextN nextP at h
    rw [this] at h
    simp at h

end Go.Proofs.YtfkhgdbnjcdlmaaGreatDoor
