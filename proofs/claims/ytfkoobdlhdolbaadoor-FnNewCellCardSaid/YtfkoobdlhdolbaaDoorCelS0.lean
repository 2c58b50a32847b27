/-
  How many tags a memory has.
-/
import Derived.Test.YtfkoobdlhdolbaaDoorCelR
namespace Go.Proofs.YtfkoobdlhdolbaaDoor
open Go.RowKit Go.Deep
set_option linter.unusedVariables false

/-- All tags of all stacks. -/
def tagSum : List CellD → Nat
  | [] => 0
  | c :: cs => c.tags.length + tagSum cs

theorem tagSum_snoc (c : CellD) : ∀ cs : List CellD, tagSum (cs ++ [c]) = tagSum cs + c.tags.length
  | [] => by simp [tagSum]
  | d :: cs => by rw [List.cons_append]; simp only [tagSum]; rw [tagSum_snoc c cs]; omega

theorem take_snoc {α : Type} {l : List α} {k : Nat} {d : α} (h : l[k]? = some d) : l.take (k + 1) = l.take k ++ [d] := by
  rw [List.take_add_one, h]
  rfl

theorem tagSum_take_le : ∀ (cs : List CellD) (k : Nat), tagSum (cs.take k) ≤ tagSum cs
  | [], k => by simp [tagSum]
  | c :: cs, 0 => by simp [tagSum]
  | c :: cs, k + 1 => by rw [List.take_succ_cons]; simp only [tagSum]; have := tagSum_take_le cs k; omega

end Go.Proofs.YtfkoobdlhdolbaaDoor
