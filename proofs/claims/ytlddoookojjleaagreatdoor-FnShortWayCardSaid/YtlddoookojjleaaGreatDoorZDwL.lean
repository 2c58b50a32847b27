/-
  Two cells that are read at one place and stored at another.
  What the draw of a program and a number leaves.
  Rows of points have a length; programs that are drawn have few points.
-/
import Derived.Test.YtlddoookojjleaaGreatDoorZDwD
import Derived.Test.YtlddoookojjleaaGreatDoorZL2Xb
namespace Go.Proofs.YtlddoookojjleaaGreatDoor
open Go.RowKit Go.Deep
set_option linter.unusedVariables false

/-- What holds while two cells are read at one place and stored at another. -/
abbrev PrK (n m : Nat) (u0 u1 : Value) (w : World) : Prop := w.cell? ⟨m, 0, none⟩ = some u0 ∧ w.cell? ⟨m, 1, none⟩ = some u1 ∧ w.cell? ⟨n, 0, none⟩ = some (heldC w ⟨n, 0, none⟩) ∧ w.cell? ⟨n, 1, none⟩ = some (heldC w ⟨n, 1, none⟩) ∧ w.frozen? ⟨n, 0, none⟩ = false ∧ w.frozen? ⟨n, 1, none⟩ = false

theorem prK_mk {n m : Nat} {u0 u1 : Value} {w : World} {t : TypeId} (h : w.heap[m]? = some (.cells #[u0, u1] t (0, 0))) (hn : w.heap[n]? = some (.cells #[.slice none 0 0, .slice none 0 0] t (0, 0))) : PrK n m u0 u1 w := by
  have z0 := (cell_of_block hn 0).trans (show _ = some (.slice none 0 0) from rfl)
  have z1 := (cell_of_block hn 1).trans (show _ = some (.slice none 0 0) from rfl)
  exact ⟨(cell_of_block h 0).trans rfl, (cell_of_block h 1).trans rfl, by unfold heldC; rw [z0]; rfl, by unfold heldC; rw [z1]; rfl, frozen_of_block hn 0, frozen_of_block hn 1⟩

theorem prK_put {n m : Nat} {u0 u1 x y : Value} {w : World} (h : PrK n m u0 u1 w) (hne : n ≠ m) : PrK n m u0 u1 ((w.setCell ⟨n, 0, none⟩ x).setCell ⟨n, 1, none⟩ y) := by
  obtain ⟨h1, h2, h3, h4, h5, h6⟩ := h
  have n1 : ∀ (o o' : Nat), (⟨n, o, none⟩ : Addr) ≠ ⟨m, o', none⟩ := fun o o' e => by injection e with e; exact hne e
  have c0 : ((w.setCell ⟨n, 0, none⟩ x).setCell ⟨n, 1, none⟩ y).cell? ⟨n, 0, none⟩ = some x := (World.cell?_setCell_other _ _ _ _ (by simp)).trans (World.cell?_setCell_same _ _ _ h3)
  have c1 : ((w.setCell ⟨n, 0, none⟩ x).setCell ⟨n, 1, none⟩ y).cell? ⟨n, 1, none⟩ = some y := World.cell?_setCell_same _ _ _ ((World.cell?_setCell_other _ _ _ _ (by simp)).trans h4)
  refine ⟨((World.cell?_setCell_other _ _ _ _ (n1 1 0)).trans (World.cell?_setCell_other _ _ _ _ (n1 0 0))).trans h1, ((World.cell?_setCell_other _ _ _ _ (n1 1 1)).trans (World.cell?_setCell_other _ _ _ _ (n1 0 1))).trans h2, ?_, ?_, ?_, ?_⟩
  · rw [c0]; unfold heldC; rw [c0]; rfl
  · rw [c1]; unfold heldC; rw [c1]; rfl
  · rw [World.frozen?_setCell, World.frozen?_setCell]; exact h5
  · rw [World.frozen?_setCell, World.frozen?_setCell]; exact h6

end Go.Proofs.YtlddoookojjleaaGreatDoor

namespace Go.Proofs.YtlddoookojjleaaGreatDoor
open Go.RowKit Go.Deep
set_option linter.unusedVariables false

/-- What the draw of a program and a number leaves. -/
def PlaceD (w : World) (E : Ending) (w' : World) : Prop := ∃ (ts : List Int) (s : Sts) (At As : Option Addr) (ct cs : Nat) (q : Int), E = .returned (.tuple #[.agg #[.slice At ts.length ct, .slice As s.len cs], .int .i64 q]) ∧
  ReadsP w' w.heap.size ts s At As ct cs ∧ ts.length ≤ 1000 ∧ s.size ≤ 40000 ∧ (-1 ≤ q ∧ q ≤ 100000) ∧ Below w.heap.size w w'

end Go.Proofs.YtlddoookojjleaaGreatDoor

namespace Go.Proofs.YtlddoookojjleaaGreatDoor
open Go.RowKit Go.Deep
set_option linter.unusedVariables false

theorem pRow_lenL {w : World} {B : Nat} {v : Value} {ns : List Nd} (h : PRow w B v ns) : ∃ A c, v = .slice A ns.length c := by
  obtain ⟨xs, ho, _⟩ := h
  rcases ho.2 with ⟨hv, h0⟩ | ⟨g, cap, cur, hv, _⟩
  · exact ⟨none, 0, by rw [hv, h0]⟩
  · exact ⟨_, _, hv⟩

theorem points_lenL (ok : Bool) (s : Sts) (h : s.size ≤ 40000) : (pointsB ok s).length ≤ 90000 := by
  unfold pointsB
  split
  · rw [progPts_len]
    have := s.npts_le
    omega
  · simp

end Go.Proofs.YtlddoookojjleaaGreatDoor
