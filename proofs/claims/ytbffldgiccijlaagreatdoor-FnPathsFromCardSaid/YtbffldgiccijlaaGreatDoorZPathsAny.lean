/-
  PathsFrom and PathsTo at any program and number, the program's and the model's.
-/
import Derived.Test.YtbffldgiccijlaaGreatDoorZPathsAny0
import Derived.Test.YtbffldgiccijlaaGreatDoorZL2Xb
namespace Go.Proofs.YtbffldgiccijlaaGreatDoor
open Go.RowKit Go.Deep
set_option linter.unusedVariables false

theorem specPathsFrom_any (ts : List Int) (s : Sts) (At As : Option Addr) (ct cs : Nat) (a : Int) (w : World) (hsz : s.size ≤ 1048576) (hT : IntsV w 0 w.heap.size ts At ct) (hR : RepV w 0 w.heap.size s As cs) :
    Calls Tryz.prog 16 #[.agg #[.slice At ts.length ct, .slice As s.len cs], .int .i64 a] w fun E w' => ∃ v l, E = .returned v ∧ RowI w' w.heap.size v l ∧ AnsPathsFrom (validB ts s) s a l ∧ Below w.heap.size w w' := by
  by_cases h : validB ts s = true ∧ 0 ≤ a ∧ a < ((progPts s).length : Int)
  · obtain ⟨h1, h2, h3⟩ := h
    obtain ⟨n, rfl⟩ : ∃ n : Nat, a = (n : Int) := ⟨a.toNat, by omega⟩
    refine (specPathsFrom_yes ts s At As ct cs n w hsz h1 (by omega) hT hR).mono ?_
    rintro E w' ⟨v, l, rfl, hv, hl, hb⟩
    exact ⟨v, l, rfl, hv, .inl ⟨h1, h2, h3, by simpa using hl⟩, hb⟩
  · have hno : a < 0 ∨ ((pointsB (validB ts s) s).length : Int) ≤ a := by
      by_cases h0 : a < 0
      · exact .inl h0
      · refine .inr ?_
        cases hv : validB ts s
        · simp [pointsB]; omega
        · rcases Int.lt_or_le a ((progPts s).length : Int) with h1 | h1
          · exact absurd ⟨hv, by omega, h1⟩ h
          · simpa [pointsB] using h1
    refine (specPathsFrom_no ts s At As ct cs a w hsz hno hT hR).mono ?_
    rintro E w' ⟨v, rfl, hv, hb⟩
    exact ⟨v, [], rfl, hv, .inr ⟨h, rfl⟩, hb⟩

theorem specPathsTo_any (ts : List Int) (s : Sts) (At As : Option Addr) (ct cs : Nat) (a : Int) (w : World) (hsz : s.size ≤ 1048576) (hT : IntsV w 0 w.heap.size ts At ct) (hR : RepV w 0 w.heap.size s As cs) :
    Calls Tryz.prog 20 #[.agg #[.slice At ts.length ct, .slice As s.len cs], .int .i64 a] w fun E w' => ∃ v l, E = .returned v ∧ RowI w' w.heap.size v l ∧ AnsPathsTo (validB ts s) s a l ∧ Below w.heap.size w w' := by
  by_cases h : validB ts s = true ∧ 0 ≤ a ∧ a < ((progPts s).length : Int)
  · obtain ⟨h1, h2, h3⟩ := h
    obtain ⟨n, rfl⟩ : ∃ n : Nat, a = (n : Int) := ⟨a.toNat, by omega⟩
    refine (specPathsTo_yes ts s At As ct cs n w hsz h1 (by omega) hT hR).mono ?_
    rintro E w' ⟨v, l, rfl, hv, hl, hb⟩
    exact ⟨v, l, rfl, hv, .inl ⟨h1, h2, h3, by simpa using hl⟩, hb⟩
  · have hno : a < 0 ∨ ((pointsB (validB ts s) s).length : Int) ≤ a := by
      by_cases h0 : a < 0
      · exact .inl h0
      · refine .inr ?_
        cases hv : validB ts s
        · simp [pointsB]; omega
        · rcases Int.lt_or_le a ((progPts s).length : Int) with h1 | h1
          · exact absurd ⟨hv, by omega, h1⟩ h
          · simpa [pointsB] using h1
    refine (specPathsTo_no ts s At As ct cs a w hsz hno hT hR).mono ?_
    rintro E w' ⟨v, rfl, hv, hb⟩
    exact ⟨v, [], rfl, hv, .inr ⟨h, rfl⟩, hb⟩

end Go.Proofs.YtbffldgiccijlaaGreatDoor
