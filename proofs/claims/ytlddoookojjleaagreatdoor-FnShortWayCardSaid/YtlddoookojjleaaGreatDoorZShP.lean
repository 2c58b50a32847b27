/-
  What ShortWay answers: plain.
-/
import Derived.Test.YtlddoookojjleaaGreatDoorZBfm
import Derived.Test.YtlddoookojjleaaGreatDoorZBase
import Derived.Test.YtlddoookojjleaaGreatDoorZStmtY
namespace Go.Proofs.YtlddoookojjleaaGreatDoor
open Go.RowKit Go.Deep
set_option linter.unusedVariables false

/-- There is a way. -/
def SwC (ts : List Int) (s : Sts) (a b : Int) : Prop := validB ts s = true ∧ 0 ≤ a ∧ a < (progPts s).length ∧ 0 ≤ b ∧ b < (progPts s).length ∧ b.toNat ∈ nmsR (bfsE (nextN (progPts s)) a.toNat)

/-- The way and whether there is one. -/
def AnsSW (ts : List Int) (s : Sts) (a b : Int) (l : List Int) (r : Bool) : Prop :=
  (SwC ts s a b ∧ l = intsW (wayE (nextN (progPts s)) a.toNat b.toNat) ∧ r = true) ∨ (¬ SwC ts s a b ∧ l = [] ∧ r = false)

theorem AnsSW.unique {ts : List Int} {s : Sts} {a b : Int} {l l' : List Int} {r r' : Bool} (h : AnsSW ts s a b l r) (k : AnsSW ts s a b l' r') : l = l' ∧ r = r' := by
  rcases h with ⟨h1, h2, h3⟩ | ⟨h1, h2, h3⟩ <;> rcases k with ⟨k1, k2, k3⟩ | ⟨k1, k2, k3⟩
  · exact ⟨h2.trans k2.symm, h3.trans k3.symm⟩
  · exact absurd h1 k1
  · exact absurd k1 h1
  · exact ⟨h2.trans k2.symm, h3.trans k3.symm⟩

theorem valid_61 {ts : List Int} {s : Sts} (h : validB ts s = true) : (progPts s).length ≤ 61 := by
  have := s.npts_le
  have := valid_size h
  rw [progPts_len]
  omega

theorem valid_D {ts : List Int} {s : Sts} (h : validB ts s = true) : PtsOk s.npts (progPts s) := progPts_ok s (valid_ok h).2.1

theorem wayE_len {nx : Nat → List Nat} {f x n : Nat} (hs : f ∉ nx f) (hn : ∀ a, ∀ y ∈ nx a, y < n) (hx : x ∈ nmsR (bfsE nx f)) : (wayE nx f x).length ≤ n + 1 := by
  have h1 := wayR_length (bfsE_ok hs) hx
  have h2 := dstR_le (bfsE nx f) x
  have h3 := bfsE_len hs hn
  unfold wayE
  omega

theorem AnsSW.length {ts : List Int} {s : Sts} {a b : Int} {l : List Int} {r : Bool} (h : AnsSW ts s a b l r) : l.length ≤ 64 := by
  rcases h with ⟨h1, rfl, _⟩ | ⟨_, rfl, _⟩
  · have h2 := wayE_len (nextN_self s a.toNat) (fun a x hx => nextN_lt (valid_D h1.1) a x hx) h1.2.2.2.2.2
    have := valid_61 h1.1
    rw [intsW_length]
    omega
  · simp

theorem SwC.of {ts : List Int} {s : Sts} {a b : Nat} (hv : validB ts s = true) (ha : a < (progPts s).length) (hb : b < (progPts s).length) : SwC ts s a b ↔ b ∈ nmsR (bfsE (nextN (progPts s)) a) := by
  unfold SwC
  rw [Int.toNat_natCast, Int.toNat_natCast]
  exact ⟨fun h => h.2.2.2.2.2, fun h => ⟨hv, by omega, by omega, by omega, by omega, h⟩⟩

/-- The search's answer is the document's. -/
theorem WayPost13.ans {ts : List Int} {s : Sts} {a b : Nat} {w w' : World} {E : Ending} (hv : validB ts s = true) (ha : a < (progPts s).length) (hb : b < (progPts s).length) (h : WayPost13 (nextN (progPts s)) a b w E w') :
    ∃ v l r, E = .returned (.tuple #[v, .bool r]) ∧ RowI w' w.heap.size v l ∧ AnsSW ts s a b l r ∧ Below w.heap.size w w' := by
  obtain ⟨v, h1 | h1, hb2⟩ := h
  · exact ⟨v, _, true, h1.2.1, h1.2.2, .inl ⟨(SwC.of hv ha hb).mpr h1.1, by rw [Int.toNat_natCast, Int.toNat_natCast], rfl⟩, hb2⟩
  · exact ⟨v, _, false, h1.2.1, h1.2.2, .inr ⟨fun e => h1.1 ((SwC.of hv ha hb).mp e), rfl, rfl⟩, hb2⟩

end Go.Proofs.YtlddoookojjleaaGreatDoor
