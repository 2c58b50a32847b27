/-
  Pairs of cells that are answered.
-/
import Derived.Test.YtfkoobdlhdolbaaDoorAd2
import Derived.Test.YtfkoobdlhdolbaaDoorMemP
import Derived.Test.YtfkoobdlhdolbaaDoorCelI
import Derived.Test.YtfkoobdlhdolbaaDoorCelM0
namespace Go.Proofs.YtfkoobdlhdolbaaDoor
open Go.RowKit Go.Deep
set_option linter.unusedVariables false

theorem ErrI.below {w w' : World} {ev : Value} (h : ErrI w ev) (hb : Below w.heap.size w w') : ErrI w' ev := (hb.cell (World.block_lt_of_cell? w _ h)).trans h

/-- The two cells of an answer's pointer, behind a store. -/
theorem ptr_store {w : World} {n : Nat} {a0 a1 : Value} (hX : w.heap[n]? = some (.cells #[a0, a1] 25 (0, 0))) (a b : Value) :
    ((w.setCell ⟨n, 0, none⟩ a).setCell ⟨n, 1, none⟩ b).cell? ⟨n, 0, none⟩ = some a ∧ ((w.setCell ⟨n, 0, none⟩ a).setCell ⟨n, 1, none⟩ b).cell? ⟨n, 1, none⟩ = some b :=
  set_pair ((cell_of_block hX 0).trans rfl) ((cell_of_block hX 1).trans rfl) a b

/-- What holds while a pair of cells is answered: the two cells that are read, and the two that are written. -/
abbrev PairK (n m : Nat) (a0 a1 : Value) (w : World) : Prop := w.cell? ⟨m, 0, none⟩ = some a0 ∧ w.cell? ⟨m, 1, none⟩ = some a1 ∧ w.cell? ⟨n, 0, none⟩ = some (held w ⟨n, 0, none⟩) ∧ w.cell? ⟨n, 1, none⟩ = some (held w ⟨n, 1, none⟩) ∧ w.frozen? ⟨n, 0, none⟩ = false ∧ w.frozen? ⟨n, 1, none⟩ = false

theorem pairK_below {n m : Nat} {a0 a1 : Value} {w w' : World} (h : PairK n m a0 a1 w) (hb : Below w.heap.size w w') : PairK n m a0 a1 w' := by
  obtain ⟨h1, h2, h3, h4, h5, h6⟩ := h
  have e : ∀ {a u}, w.cell? a = some u → w'.cell? a = w.cell? a := fun k => hb.cell (World.block_lt_of_cell? w _ k)
  exact ⟨(e h1).trans h1, (e h2).trans h2, held_cell (e h3) h3, held_cell (e h4) h4, (hb.frozen (World.block_lt_of_cell? w _ h3)).trans h5, (hb.frozen (World.block_lt_of_cell? w _ h4)).trans h6⟩

theorem pairK_store {n m : Nat} {a0 a1 : Value} {w : World} (hn : ¬ n = m) (h : PairK n m a0 a1 w) (a b : Value) : PairK n m a0 a1 ((w.setCell ⟨n, 0, none⟩ a).setCell ⟨n, 1, none⟩ b) := by
  obtain ⟨h1, h2, h3, h4, h5, h6⟩ := h
  obtain ⟨z0, z1⟩ := set_pair h3 h4 a b
  have k : ∀ {a' : Addr}, n ≠ a'.block → ((w.setCell ⟨n, 0, none⟩ a).setCell ⟨n, 1, none⟩ b).cell? a' = w.cell? a' := fun hne => (World.cell?_setCell_other _ _ _ _ (fun e => hne (congrArg Addr.block e))).trans (World.cell?_setCell_other _ _ _ _ (fun e => hne (congrArg Addr.block e)))
  refine ⟨(k hn).trans h1, (k hn).trans h2, by unfold held; rw [z0]; rfl, by unfold held; rw [z1]; rfl, ?_, ?_⟩
  · rw [World.frozen?_setCell, World.frozen?_setCell]; exact h5
  · rw [World.frozen?_setCell, World.frozen?_setCell]; exact h6

theorem rowC_form {w : World} {B : Nat} {v : Value} {cs : List CellD} (h : RowC w B v cs) : ∃ A n c, v = .slice A n c := by
  obtain ⟨rs, _, h2⟩ := h
  obtain ⟨A, c, hv, _⟩ := own_form h2.own
  exact ⟨A, _, c, hv⟩

end Go.Proofs.YtfkoobdlhdolbaaDoor
