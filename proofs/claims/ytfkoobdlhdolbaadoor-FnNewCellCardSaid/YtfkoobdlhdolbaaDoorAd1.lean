/-
  The error of an invalid argument, where it is read.
-/
import Derived.Test.YtfkoobdlhdolbaaDoorMemC
import Derived.Test.YtfkoobdlhdolbaaDoorCelB
import Derived.Test.YtfkoobdlhdolbaaDoorCelRd
import Derived.Test.YtfkoobdlhdolbaaDoorCelX
import Derived.Deep.RegionHeld3
namespace Go.Proofs.YtfkoobdlhdolbaaDoor
open Go.RowKit Go.Deep
set_option linter.unusedVariables false

/-- The place of the error for arguments that are not valid. -/
def ErrI (w : World) (ev : Value) : Prop := w.cell? ⟨0, 0, none⟩ = some ev

/-- What holds while an error is answered: the error's place, and the two cells of an answer's pointer. -/
abbrev ErrK (n : Nat) (ev : Value) (w : World) : Prop := w.cell? ⟨0, 0, none⟩ = some ev ∧ w.cell? ⟨n, 0, none⟩ = some (held w ⟨n, 0, none⟩) ∧ w.cell? ⟨n, 1, none⟩ = some (held w ⟨n, 1, none⟩) ∧ w.frozen? ⟨n, 0, none⟩ = false ∧ w.frozen? ⟨n, 1, none⟩ = false

theorem errK_store {n : Nat} {ev : Value} {w : World} (hn : ¬ n = 0) (h : ErrK n ev w) (a b : Value) : ErrK n ev ((w.setCell ⟨n, 0, none⟩ a).setCell ⟨n, 1, none⟩ b) := by
  obtain ⟨h1, h2, h3, h4, h5⟩ := h
  have e0 : (w.setCell ⟨n, 0, none⟩ a).cell? ⟨n, 0, none⟩ = some a := World.cell?_setCell_same _ _ _ h2
  have e1 : (w.setCell ⟨n, 0, none⟩ a).cell? ⟨n, 1, none⟩ = some (held w ⟨n, 1, none⟩) := (World.cell?_setCell_other _ _ _ _ (by simp)).trans h3
  have e2 : ((w.setCell ⟨n, 0, none⟩ a).setCell ⟨n, 1, none⟩ b).cell? ⟨n, 0, none⟩ = some a := (World.cell?_setCell_other _ _ _ _ (by simp)).trans e0
  have e3 : ((w.setCell ⟨n, 0, none⟩ a).setCell ⟨n, 1, none⟩ b).cell? ⟨n, 1, none⟩ = some b := World.cell?_setCell_same _ _ _ e1
  refine ⟨?_, ?_, ?_, ?_, ?_⟩
  · exact (World.cell?_setCell_other _ _ _ _ (fun e => hn (congrArg Addr.block e))).trans ((World.cell?_setCell_other _ _ _ _ (fun e => hn (congrArg Addr.block e))).trans h1)
  · unfold held; rw [e2]; rfl
  · unfold held; rw [e3]; rfl
  · rw [World.frozen?_setCell, World.frozen?_setCell]; exact h4
  · rw [World.frozen?_setCell, World.frozen?_setCell]; exact h5

theorem set_pair {n : Nat} {w : World} {a0 a1 : Value} (h0 : w.cell? ⟨n, 0, none⟩ = some a0) (h1 : w.cell? ⟨n, 1, none⟩ = some a1) (a b : Value) :
    ((w.setCell ⟨n, 0, none⟩ a).setCell ⟨n, 1, none⟩ b).cell? ⟨n, 0, none⟩ = some a ∧ ((w.setCell ⟨n, 0, none⟩ a).setCell ⟨n, 1, none⟩ b).cell? ⟨n, 1, none⟩ = some b :=
  ⟨(World.cell?_setCell_other _ _ _ _ (by simp)).trans (World.cell?_setCell_same _ _ _ h0), World.cell?_setCell_same _ _ _ ((World.cell?_setCell_other _ _ _ _ (by simp)).trans h1)⟩

end Go.Proofs.YtfkoobdlhdolbaaDoor
