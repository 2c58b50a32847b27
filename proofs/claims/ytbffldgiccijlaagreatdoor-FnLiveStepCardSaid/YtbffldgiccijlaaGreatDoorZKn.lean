/-
  A row of sets in memory.
-/
import Derived.Test.YtbffldgiccijlaaGreatDoorZStmtY
import Derived.Test.YtbffldgiccijlaaGreatDoorZFlowsK
namespace Go.Proofs.YtbffldgiccijlaaGreatDoor
open Go.RowKit Go.Deep
set_option linter.unusedVariables false

/-- A row of sets in block K. -/
def KnAt (w : World) (K : Nat) (kn : Nat → Nat) : Prop := ∃ cs, w.heap[K]? = some (.cells cs 49 (0, 0)) ∧ cs.size = 61 ∧ ∀ i, i < 61 → cs[i]? = some (.int .u64 (kn i : Int))

theorem KnAt.lt {w : World} {K : Nat} {kn : Nat → Nat} (h : KnAt w K kn) : K < w.heap.size := by
  obtain ⟨cs, h1, _⟩ := h
  exact heap_lt h1

theorem KnAt.cell {w : World} {K : Nat} {kn : Nat → Nat} (h : KnAt w K kn) {i : Nat} (hi : i < 61) : w.cell? ⟨K, i, none⟩ = some (.int .u64 (kn i : Int)) := by
  obtain ⟨cs, h1, _, h3⟩ := h
  rw [cell_of_block h1]
  exact h3 i hi

theorem KnAt.soft {w : World} {K : Nat} {kn : Nat → Nat} (h : KnAt w K kn) (i : Nat) : w.frozen? ⟨K, i, none⟩ = false := by
  obtain ⟨cs, h1, _, _⟩ := h
  exact frozen_of_row _ _ _ _ _ h1

theorem KnAt.keep {w w' : World} {K : Nat} {kn : Nat → Nat} (h : KnAt w K kn) (hb : Below w.heap.size w w') : KnAt w' K kn := by
  have hl := h.lt
  unfold KnAt
  rw [hb.block K hl]
  exact h

theorem KnAt.put {w : World} {K : Nat} {kn : Nat → Nat} (h : KnAt w K kn) {i v : Nat} (hi : i < 61) : KnAt (w.setCell ⟨K, i, none⟩ (.int .u64 (v : Int))) K (setAt kn i v) := by
  obtain ⟨cs, h1, h2, h3⟩ := h
  exact ⟨_, heap_setCell_same w K i cs _ _ h1, (sets_put h2 h3 hi).1, (sets_put h2 h3 hi).2⟩

theorem KnAt.congr {w : World} {K : Nat} {kn kn' : Nat → Nat} (h : KnAt w K kn) (he : ∀ i, i < 61 → kn i = kn' i) : KnAt w K kn' := by
  obtain ⟨cs, h1, h2, h3⟩ := h
  exact ⟨cs, h1, h2, fun i hi => by rw [← he i hi]; exact h3 i hi⟩

/-- The sets, read off the memory. -/
def knW (w : World) (K i : Nat) : Nat :=
  match w.cell? ⟨K, i, none⟩ with
  | some (.int _ z) => z.toNat
  | _ => 0

theorem KnAt.read {w : World} {K : Nat} {kn : Nat → Nat} (h : KnAt w K kn) {i : Nat} (hi : i < 61) : knW w K i = kn i := by
  unfold knW
  rw [h.cell hi]
  simp

end Go.Proofs.YtbffldgiccijlaaGreatDoor
