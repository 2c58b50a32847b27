/-
  What a new cell answers, and empty memories.
-/
import Derived.Test.YtfkoobdlhdolbaaDoorCelP
import Derived.Test.YtfkoobdlhdolbaaDoorCelQ
import Derived.Test.YtfkoobdlhdolbaaDoorCelRd
namespace Go.Proofs.YtfkoobdlhdolbaaDoor
open Go.RowKit Go.Deep
set_option linter.unusedVariables false

/-- A memory, a pointer and a flag. -/
def Post5 (m : List CellD) (p : Int × Int) (ok : Bool) (w : World) (E : Ending) (w' : World) : Prop := ∃ A n c, E = .returned (.tuple #[.slice A n c, .agg #[.int .i64 p.1, .int .i64 p.2], .bool ok]) ∧ RowC w' w.heap.size (.slice A n c) m ∧ Below w.heap.size w w'

theorem RowC.empty {w : World} {B H : Nat} (hH : w.heap.size = H) (hB : B ≤ H) : RowC (w.alloc (.cells #[] 33)) B (.slice (some ⟨H, 0, none⟩) 0 0) [] :=
  ⟨[], rfl, own_empty hH hB, fun j p hp => by simp at hp, fun i j p q a b hij hp => by simp at hp⟩

theorem RowC.nil (w : World) (B : Nat) : RowC w B (.slice none 0 0) [] :=
  ⟨[], rfl, World.ownsRow_nil _ _ _ _, fun j p hp => by simp at hp, fun i j p q a b hij hp => by simp at hp⟩

end Go.Proofs.YtfkoobdlhdolbaaDoor
