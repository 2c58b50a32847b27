/-
  A change of a memory by an access that has a result: what is answered.
-/
import Derived.Test.YtfkoobdlhdolbaaDoorChg
import Derived.Test.YtfkoobdlhdolbaaDoorUpT
namespace Go.Proofs.YtfkoobdlhdolbaaDoor
open Go.RowKit Go.Deep
set_option linter.unusedVariables false

/-- What the closure answers: the memory, and the box of the result is written. -/
def CloPost (w : World) (B Bm r : Nat) (ro : Obj) (m2 : List CellD) (ev : Value) (E : Ending) (w' : World) : Prop := ∃ v', E = .returned (.tuple #[v', ev]) ∧ RowM w' Bm v' m2 ∧ Below B w w' ∧ w'.heap[r]? = some ro

/-- What the change answers: everything below B stays, and the box of the result is written. -/
def AccPost (w : World) (B r : Nat) (ro : Obj) (cs : List CellD) (k : Int) (E : Ending) (w' : World) : Prop := ∃ A n c, E = .returned (.tuple #[.slice A n c, .int .i64 k]) ∧ RowC w' w.heap.size (.slice A n c) cs ∧ Below B w w' ∧ w'.heap[r]? = some ro

/-- What an access of a memory answers. -/
def ResPost (w : World) (Bm : Nat) (m2 : List CellD) (rv ev : Value) (E : Ending) (w' : World) : Prop := ∃ v', E = .returned (.tuple #[v', rv, ev]) ∧ RowM w' Bm v' m2 ∧ Below w.heap.size w w'

theorem three_0 (w : World) (a b c : Obj) : (((w.alloc a).alloc b).alloc c).heap[w.heap.size]? = some a :=
  (Below.heap_alloc _ _ _ (by simp <;> omega)).trans ((Below.heap_alloc _ _ _ (by simp)).trans (heap_alloc_new w a))
theorem three_1 (w : World) (a b c : Obj) : (((w.alloc a).alloc b).alloc c).heap[w.heap.size + 1]? = some b := by
  have h := heap_alloc_new (w.alloc a) b
  rw [World.size_alloc] at h
  exact (Below.heap_alloc _ _ _ (by simp)).trans h
theorem three_2 (w : World) (a b c : Obj) : (((w.alloc a).alloc b).alloc c).heap[w.heap.size + 2]? = some c := by
  have h := heap_alloc_new ((w.alloc a).alloc b) c
  rw [World.size_alloc, World.size_alloc] at h
  exact h

end Go.Proofs.YtfkoobdlhdolbaaDoor
