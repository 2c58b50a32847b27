/-
  The flows in memory, looked at.
-/
import Derived.Test.YtbffldgiccijlaaGreatDoorZFlowsOf
namespace Go.Proofs.YtbffldgiccijlaaGreatDoor
open Go.RowKit Go.Deep
set_option linter.unusedVariables false

section
variable {ts : List Int} {ns : List Nd} {C F hi : Nat} {A : Option Addr} {c : Nat} {ah bk : Nat → Nat} {a b : World}

theorem FlowsIn.grCell (h : FlowsIn ts ns C F hi A c ah bk a) : a.cell? ⟨F, 0, none⟩ = some (.pointer (some ⟨C, 0, none⟩)) := by
  obtain ⟨cs, h1, h2, _⟩ := h.row
  rw [cell_of_block h1]
  exact h2.gr

theorem FlowsIn.effCell (h : FlowsIn ts ns C F hi A c ah bk a) {k : Nat} {d : Nd} (hd : ns[k]? = some d) :
    a.cell? ⟨F, 2 + k * 4, none⟩ = some (.int .u64 ((effD ts d).r : Int)) ∧ a.cell? ⟨F, 2 + k * 4 + 1, none⟩ = some (.int .u64 ((effD ts d).t : Int)) ∧ a.cell? ⟨F, 2 + k * 4 + 2, none⟩ = some (.int .u64 ((effD ts d).c : Int)) ∧ a.cell? ⟨F, 2 + k * 4 + 3, none⟩ = some (.int .u64 ((effD ts d).s : Int)) := by
  obtain ⟨cs, h1, h2, _⟩ := h.row
  have hk := (List.getElem?_eq_some_iff.mp hd).1
  obtain ⟨e1, e2, e3, e4⟩ := h2.eff k d hk hd
  refine ⟨?_, ?_, ?_, ?_⟩
  · rw [cell_of_block h1, show 2 + k * 4 = k * 4 + 2 from by omega]; exact e1
  · rw [cell_of_block h1, show 2 + k * 4 + 1 = k * 4 + 3 from by omega]; exact e2
  · rw [cell_of_block h1, show 2 + k * 4 + 2 = k * 4 + 4 from by omega]; exact e3
  · rw [cell_of_block h1, show 2 + k * 4 + 3 = k * 4 + 5 from by omega]; exact e4

theorem FlowsIn.scCell (h : FlowsIn ts ns C F hi A c ah bk a) : a.cell? ⟨F, 1, none⟩ = some (.slice A ts.length c) := by
  obtain ⟨cs, h1, h2, _⟩ := h.row
  rw [cell_of_block h1]
  exact h2.sc

theorem FlowsIn.scope (h : FlowsIn ts ns C F hi A c ah bk a) : IntsV a 0 a.heap.size ts A c := h.sc.keep (Nat.zero_le _) h.lt.2.2 fun _ _ _ => rfl

theorem FlowsIn.keep (h : FlowsIn ts ns C F hi A c ah bk a) (hb : Below a.heap.size a b) : FlowsIn ts ns C F hi A c ah bk b := by
  have hl := h.lt
  have hs := hb.size
  refine ⟨?_, h.gr.kept (hb.block C (by omega)), h.sc.keep (Nat.le_refl _) (Nat.le_refl _) fun p _ hp => World.cell?_of_block (hb.block p.block (by omega)), by omega, h.sets⟩
  rw [hb.block F (by omega)]
  exact h.row
end

end Go.Proofs.YtbffldgiccijlaaGreatDoor
