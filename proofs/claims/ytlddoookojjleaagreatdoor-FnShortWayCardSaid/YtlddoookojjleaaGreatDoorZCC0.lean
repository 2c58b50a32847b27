/-
  CountChoices of the program and of its model.
-/
import Derived.Test.YtlddoookojjleaaGreatDoorZL2Xb
import Derived.Test.YtlddoookojjleaaGreatDoorZL2Xa
import Derived.Test.YtlddoookojjleaaGreatDoorZStmtY
namespace Go.Proofs.YtlddoookojjleaaGreatDoor
open Go.RowKit Go.Deep
set_option linter.unusedVariables false

theorem choicesOf_take (ds : List Nd) {k : Nat} {d : Nd} (h : ds[k]? = some d) : choicesOf (ds.take (k + 1)) = choicesOf (ds.take k) + (if d.next.length = 2 then 1 else 0) := by
  unfold choicesOf
  rw [List.take_add_one, h, List.filter_append, List.length_append]
  by_cases h2 : d.next.length = 2 <;> simp [h2]

theorem choicesOf_le (ds : List Nd) (k : Nat) : choicesOf (ds.take k) ≤ k := by
  unfold choicesOf
  exact Nat.le_trans (List.length_filter_le _ _) (List.length_take_le _ _)

theorem NextV.slice {w : World} {B : Nat} {u : Value} {next : List Int} (h : NextV w B u next) : ∃ A c, u = .slice A next.length c := by
  rcases h with ⟨h1, h2⟩ | ⟨g, h1, _⟩
  · subst h1 h2
    exact ⟨none, 0, rfl⟩
  · exact ⟨_, _, h1⟩

theorem PRow.cells_at {w : World} {B g cap k q : Nat} {ns : List Nd} {d : Nd} (h : PRow w B (.slice (some ⟨g, 0, none⟩) q cap) ns) (hn : Hid (ns.length = q)) (hd : ns[k]? = some d) :
    ∃ u, (w.cell? ⟨g, k * 5, none⟩ = some (.int .i64 d.op) ∧ w.cell? ⟨g, k * 5 + 1, none⟩ = some (.int .i64 d.x) ∧ w.cell? ⟨g, k * 5 + 2, none⟩ = some (.int .i64 d.y) ∧ w.cell? ⟨g, k * 5 + 3, none⟩ = some (.int .i64 d.n) ∧ w.cell? ⟨g, k * 5 + 4, none⟩ = some u) ∧ NextV w B u d.next := by
  have := hn.out
  subst this
  exact h.cells hd

end Go.Proofs.YtlddoookojjleaaGreatDoor
