/-
  A valid program's statements and points.
-/
import Derived.Test.YtcaklhempmlpgaaRunP
namespace Go.Proofs.Ytcaklhempmlpgaa
open Go.RowKit Go.Deep
set_option linter.unusedVariables false

theorem valid_ok {ts : List Int} {s : Sts} (h : validB ts s = true) : typesB ts = true ∧ okT s ∧ s.size ≤ 30 := by
  simp only [validB, Bool.and_eq_true, decide_eq_true_eq] at h
  have h6 : ts.length ≤ 6 := by
    have := h.1
    simp only [typesB, Bool.and_eq_true, decide_eq_true_eq] at this
    exact this.2
  exact ⟨h.1, okT_of_body h6 s 4 h.2.1, h.2.2⟩

end Go.Proofs.Ytcaklhempmlpgaa
