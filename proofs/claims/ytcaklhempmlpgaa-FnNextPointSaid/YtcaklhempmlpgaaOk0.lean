/-
  The statements of valid programs are well formed: plain.
-/
import Derived.Test.YtcaklhempmlpgaaData
import Derived.Test.YtcaklhempmlpgaaValid
namespace Go.Proofs.Ytcaklhempmlpgaa
open Go.RowKit Go.Deep
set_option linter.unusedVariables false

/-- The fields of all statements are in their ranges. -/
def okT : Sts → Prop
  | .nil => True
  | .cons op x y n t e r => (1 ≤ op ∧ op ≤ 10 ∧ (op ≤ 8 → 0 ≤ x ∧ x ≤ 5 ∧ 0 ≤ y ∧ y ≤ 5 ∧ 0 ≤ n ∧ n ≤ 9)) ∧ okT t ∧ okT e ∧ okT r

theorem ty_range {ts : List Int} {v : Int} (h6 : ts.length ≤ 6) (h : tyAt ts v ≠ 0) : 0 ≤ v ∧ v ≤ 5 := by
  unfold tyAt at h
  by_cases hv : v < 0 ∨ (ts.length : Int) ≤ v
  · rw [if_pos hv] at h; exact absurd rfl h
  · omega

theorem ok_simple {ts : List Int} {op x y n : Int} (h6 : ts.length ≤ 6) (h : simpleB op (tyAt ts x) (tyAt ts y) x y n = true) : 1 ≤ op ∧ op ≤ 10 ∧ (op ≤ 8 → 0 ≤ x ∧ x ≤ 5 ∧ 0 ≤ y ∧ y ≤ 5 ∧ 0 ≤ n ∧ n ≤ 9) := by
  have hx : tyAt ts x ≠ 0 → 0 ≤ x ∧ x ≤ 5 := ty_range h6
  have hy : tyAt ts y ≠ 0 → 0 ≤ y ∧ y ≤ 5 := ty_range h6
  generalize tyAt ts x = tx at *
  generalize tyAt ts y = ty at *
  unfold simpleB at h
  by_cases e1 : op = 1
  · rw [if_pos e1] at h
    simp only [decide_eq_true_eq] at h
    have a1 := hx (by omega)
    exact ⟨by omega, by omega, fun _ => ⟨a1.1, a1.2, by omega, by omega, by omega, by omega⟩⟩
  by_cases e2 : op = 2
  · rw [if_neg e1, if_pos e2] at h
    simp only [decide_eq_true_eq] at h
    have a1 := hx (by omega)
    exact ⟨by omega, by omega, fun _ => ⟨a1.1, a1.2, by omega, by omega, by omega, by omega⟩⟩
  by_cases hn : n ≠ 0
  · rw [if_neg e1, if_neg e2, if_pos hn] at h; cases h
  have hn0 : n = 0 := by omega
  by_cases e3 : op = 3
  · rw [if_neg e1, if_neg e2, if_neg hn, if_pos e3] at h
    simp only [decide_eq_true_eq] at h
    have a1 := hx (by omega)
    have a2 := hy (by omega)
    exact ⟨by omega, by omega, fun _ => ⟨a1.1, a1.2, by omega, by omega, by omega, by omega⟩⟩
  by_cases e4 : op = 4
  · rw [if_neg e1, if_neg e2, if_neg hn, if_neg e3, if_pos e4] at h
    simp only [decide_eq_true_eq] at h
    have a1 := hx (by omega)
    have a2 := hy (by omega)
    exact ⟨by omega, by omega, fun _ => ⟨a1.1, a1.2, by omega, by omega, by omega, by omega⟩⟩
  by_cases e5 : op = 5
  · rw [if_neg e1, if_neg e2, if_neg hn, if_neg e3, if_neg e4, if_pos e5] at h
    simp only [decide_eq_true_eq] at h
    have a1 := hx (by omega)
    have a2 := hy (by omega)
    exact ⟨by omega, by omega, fun _ => ⟨a1.1, a1.2, by omega, by omega, by omega, by omega⟩⟩
  by_cases e6 : op = 6
  · rw [if_neg e1, if_neg e2, if_neg hn, if_neg e3, if_neg e4, if_neg e5, if_pos e6] at h
    simp only [decide_eq_true_eq] at h
    have a1 := hx (by omega)
    have a2 := hy (by omega)
    exact ⟨by omega, by omega, fun _ => ⟨a1.1, a1.2, by omega, by omega, by omega, by omega⟩⟩
  by_cases e7 : op = 7
  · rw [if_neg e1, if_neg e2, if_neg hn, if_neg e3, if_neg e4, if_neg e5, if_neg e6, if_pos e7] at h
    simp only [decide_eq_true_eq] at h
    have a1 := hx (by omega)
    have a2 := hy (by omega)
    exact ⟨by omega, by omega, fun _ => ⟨a1.1, a1.2, by omega, by omega, by omega, by omega⟩⟩
  by_cases e8 : op = 8
  · rw [if_neg e1, if_neg e2, if_neg hn, if_neg e3, if_neg e4, if_neg e5, if_neg e6, if_neg e7, if_pos e8] at h
    simp only [decide_eq_true_eq] at h
    have a1 := hx (by omega)
    exact ⟨by omega, by omega, fun _ => ⟨a1.1, a1.2, by omega, by omega, by omega, by omega⟩⟩
  rw [if_neg e1, if_neg e2, if_neg hn, if_neg e3, if_neg e4, if_neg e5, if_neg e6, if_neg e7, if_neg e8] at h
  cases h

theorem okT_of_body {ts : List Int} (h6 : ts.length ≤ 6) (s : Sts) : ∀ d, bodyB ts d s = true → okT s := by
  induction s with
  | nil => intro d _; trivial
  | cons op x y n t e r iht ihe ihr =>
    intro d h
    rw [bodyB_cons, Bool.and_eq_true] at h
    obtain ⟨h1, h2⟩ := h
    unfold stmtB at h1
    by_cases hop : op ≠ 9 ∧ op ≠ 10
    · rw [if_pos hop, Bool.and_eq_true, decide_eq_true_eq] at h1
      obtain ⟨⟨ht, he⟩, h3⟩ := h1
      have nt : t = .nil := by cases t with | nil => rfl | cons => simp [Sts.len] at ht
      have ne : e = .nil := by cases e with | nil => rfl | cons => simp [Sts.len] at he
      subst nt ne
      exact ⟨ok_simple h6 h3, trivial, trivial, ihr d h2⟩
    · rw [if_neg hop, Bool.and_eq_true, Bool.and_eq_true, decide_eq_true_eq] at h1
      exact ⟨⟨by omega, by omega, fun h8 => by omega⟩, iht _ h1.2.1, ihe _ h1.2.2, ihr d h2⟩

end Go.Proofs.Ytcaklhempmlpgaa
