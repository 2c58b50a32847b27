/-
  The model's search of paths.
-/
import Derived.Test.YtlddoookojjleaaZAppG
import Derived.Test.YtlddoookojjleaaZBase
import Derived.Test.YtlddoookojjleaaZL2Xa
import Derived.Test.YtlddoookojjleaaZMem
namespace Go.Proofs.Ytlddoookojjleaa
open Go.RowKit Go.Deep
set_option linter.unusedVariables false

theorem NextV.row {w : World} {B : Nat} {u : Value} {next : List Int} (h : NextV w B u next) (hl : next.length ≤ 2) : RowI w B u next := by
  rcases h with ⟨rfl, rfl⟩ | ⟨g, rfl, h2, h3⟩
  · exact World.ownsRow_nil w B 3 1
  · refine ⟨by simp, .inr ⟨g, next.length, _, rfl, h2, h3, Nat.le_refl _, by unfold maxLen; omega, by simp, ?_⟩⟩
    rw [List.toList_toArray, Nat.mul_one]
    exact List.take_of_length_le (by simp)

theorem Try.infoBool : (Try.prog.info? 4).map (fun i => (i.zero, i.size, i.bytes)) = some (some (.bool false), 1, 1) := by kernel_rfl

/-- Flags in memory. -/
def FlAt (w : World) (F n : Nat) (fl : Nat → Bool) : Prop := ∃ cs, w.heap[F]? = some (.cells cs 4 (0, 0)) ∧ cs.size = n ∧ ∀ i, i < n → cs[i]? = some (.bool (fl i))

theorem FlAt.cell {w : World} {F n : Nat} {fl : Nat → Bool} (h : FlAt w F n fl) {i : Nat} (hi : i < n) : w.cell? ⟨F, i, none⟩ = some (.bool (fl i)) := by
  obtain ⟨cs, h1, _, h3⟩ := h
  rw [cell_of_block h1]
  exact h3 i hi

theorem FlAt.soft {w : World} {F n : Nat} {fl : Nat → Bool} (h : FlAt w F n fl) (i : Nat) : w.frozen? ⟨F, i, none⟩ = false := by
  obtain ⟨cs, h1, _, _⟩ := h
  exact frozen_of_row _ _ _ _ _ h1

theorem FlAt.apart {w : World} {F n B : Nat} {fl : Nat → Bool} (h : FlAt w F n fl) {v : Value} {xs : List Int} (hr : RowI w B v xs) : v.ownBlock ≠ some F := by
  intro e
  obtain ⟨cs, h1, _⟩ := h
  rcases hr.2 with ⟨hv, _⟩ | ⟨g, cap, cur, hv, _, h3, _⟩
  · rw [hv] at e; simp [Value.ownBlock] at e
  · rw [hv] at e
    have e' : g = F := by simpa [Value.ownBlock] using e
    rw [e'] at h3
    rw [h1] at h3
    simp at h3

theorem FlAt.keep {w w' : World} {F n : Nat} {fl : Nat → Bool} (h : FlAt w F n fl) (hk : w'.heap[F]? = w.heap[F]?) : FlAt w' F n fl := by
  unfold FlAt
  rw [hk]
  exact h

/-- A flag set. -/
def setFl (fl : Nat → Bool) (b : Nat) : Nat → Bool := fun i => if i = b then true else fl i

theorem FlAt.put {w : World} {F n : Nat} {fl : Nat → Bool} (h : FlAt w F n fl) {b : Nat} (hb : b < n) : FlAt (w.setCell ⟨F, b, none⟩ (.bool true)) F n (setFl fl b) := by
  obtain ⟨cs, h1, h2, h3⟩ := h
  refine ⟨_, heap_setCell_same w F b cs _ _ h1, by simp [h2], fun j hj => ?_⟩
  rw [Array.getElem?_setIfInBounds]
  unfold setFl
  by_cases hij : b = j
  · subst hij
    rw [if_pos rfl, if_pos (by omega), if_pos rfl]
  · rw [if_neg hij, if_neg (fun h => hij h.symm)]
    exact h3 j hj

def offB : Option Value → Bool
  | some (.bool false) => true
  | _ => false

/-- How many flags are not set. -/
def offs (w : World) (F n : Nat) : Nat := ((List.range n).filter fun i => offB (w.cell? ⟨F, i, none⟩)).length

theorem FlAt.offs {w : World} {F n : Nat} {fl : Nat → Bool} (h : FlAt w F n fl) : offs w F n = ((List.range n).filter fun i => !fl i).length := by
  unfold Proofs.Ytlddoookojjleaa.offs
  congr 1
  apply List.filter_congr
  intro i hi
  rw [h.cell (List.mem_range.mp hi)]
  cases fl i <;> rfl

theorem count_set (fl : Nat → Bool) (b : Nat) (hf : fl b = false) : ∀ n, b < n → ((List.range n).filter fun i => !setFl fl b i).length + 1 = ((List.range n).filter fun i => !fl i).length := by
  intro n
  induction n with
  | zero => intro h; omega
  | succ n ih =>
    intro h
    rw [List.range_succ, List.filter_append, List.filter_append, List.length_append, List.length_append]
    by_cases hbn : b = n
    · subst hbn
      have e : (List.range b).filter (fun i => !setFl fl b i) = (List.range b).filter (fun i => !fl i) := by
        apply List.filter_congr
        intro i hi
        have := List.mem_range.mp hi
        unfold setFl
        rw [if_neg (by omega)]
      rw [e]
      simp [setFl, hf]
    · have := ih (by omega)
      have e : setFl fl b n = fl n := by unfold setFl; rw [if_neg (fun h => hbn h.symm)]
      simp only [List.filter_cons, List.filter_nil, e]
      split <;> simp <;> omega

end Go.Proofs.Ytlddoookojjleaa
