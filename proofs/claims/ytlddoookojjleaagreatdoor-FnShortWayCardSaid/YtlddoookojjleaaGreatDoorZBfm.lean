/-
  The state of a search within a round: plain.
-/
import Derived.Test.YtlddoookojjleaaGreatDoorZBfn
import Derived.Test.YtlddoookojjleaaGreatDoorZMem
namespace Go.Proofs.YtlddoookojjleaaGreatDoor
open Go.RowKit Go.Deep
set_option linter.unusedVariables false

theorem drop_cons_of {l : List Nat} {i a : Nat} {V : List Nat} (h : l.drop i = a :: V) : l[i]? = some a ∧ V = l.drop (i + 1) ∧ i < l.length := by
  have hi : i < l.length := by
    rcases Nat.lt_or_ge i l.length with h1 | h1
    · exact h1
    · rw [List.drop_eq_nil_of_le h1] at h
      cases h
  rw [List.drop_eq_getElem_cons hi] at h
  injection h with h1 h2
  exact ⟨by rw [List.getElem?_eq_getElem hi, h1], h2.symm, hi⟩

theorem qR_cons (f n a : Nat) (R : List (Nat × Nat)) : qR f ((n, a) :: R) = qR f R ++ [n] := by simp [qR, nmsR]

theorem qR_drop_snoc {f n a i : Nat} {R : List (Nat × Nat)} (h : i ≤ (qR f R).length) : (qR f ((n, a) :: R)).drop i = (qR f R).drop i ++ [n] := by
  rw [qR_cons, List.drop_append_of_le_length h]

theorem qR_app (f : Nat) (E R : List (Nat × Nat)) : qR f (E ++ R) = qR f R ++ (nmsR E).reverse := by simp [qR, nmsR]

/-- The state of a search within a round: the point a takes its next ones, of which j are done. -/
structure BfI (nx : Nat → List Nat) (f i a j : Nat) (R : List (Nat × Nat)) : Prop where
  here : (qR f (bfsR nx f i))[i]? = some a
  le : j ≤ (nx a).length
  eq : R = fndL a (bfsR nx f i) ((nx a).take j)

theorem BfI.start {nx : Nat → List Nat} {f i a : Nat} {V : List Nat} (h : (qR f (bfsR nx f i)).drop i = a :: V) : BfI nx f i a 0 (bfsR nx f i) :=
  ⟨(drop_cons_of h).1, Nat.zero_le _, rfl⟩

theorem BfI.next {nx : Nat → List Nat} {f i a j n : Nat} {R : List (Nat × Nat)} (h : BfI nx f i a j R) (hn : (nx a)[j]? = some n) : BfI nx f i a (j + 1) (fnd1 a R n) := by
  have hj := (List.getElem?_eq_some_iff.mp hn).1
  refine ⟨h.here, hj, ?_⟩
  rw [List.take_add_one, hn, fndL_app, ← h.eq]
  rfl

theorem BfI.done {nx : Nat → List Nat} {f i a : Nat} {R : List (Nat × Nat)} (h : BfI nx f i a (nx a).length R) : R = bfsR nx f (i + 1) := by
  rw [h.eq, List.take_length, bfsR_take h.here]

theorem BfI.ok {nx : Nat → List Nat} {f i a j : Nat} {R : List (Nat × Nat)} (h : BfI nx f i a j R) (hs : f ∉ nx f) : OkR nx f R := by
  rw [h.eq]
  exact bfsR_part hs h.here (List.take_append_drop j (nx a)).symm

theorem BfI.suf {nx : Nat → List Nat} {f i a j n : Nat} {R : List (Nat × Nat)} (h : BfI nx f i a j R) (hs : f ∉ nx f) (hn : ∀ a, ∀ x ∈ nx a, x < n) (hle : n ≤ 61) : ∃ E, bfsE nx f = E ++ R := by
  rw [h.eq]
  exact bfsE_part hs hn hle h.here (List.take_append_drop j (nx a)).symm

theorem BfI.lt {nx : Nat → List Nat} {f i a j : Nat} {R : List (Nat × Nat)} (h : BfI nx f i a j R) : i + 1 ≤ (qR f R).length := by
  obtain ⟨E, hE⟩ := fndL_suf a ((nx a).take j) (bfsR nx f i)
  have h1 := (List.getElem?_eq_some_iff.mp h.here).1
  rw [h.eq, hE, qR_length, List.length_append]
  rw [qR_length] at h1
  omega

theorem BfI.way {nx : Nat → List Nat} {f i a j n x : Nat} {R : List (Nat × Nat)} (h : BfI nx f i a j R) (hs : f ∉ nx f) (hn : ∀ a, ∀ x ∈ nx a, x < n) (hle : n ≤ 61) (hx : x ∈ nmsR R) : x ∈ nmsR (bfsE nx f) ∧ wayE nx f x = wayR f R x := by
  obtain ⟨E, hE⟩ := h.suf hs hn hle
  have hok := bfsE_ok hs
  refine ⟨by rw [hE, nmsR_app, List.mem_append]; exact .inr hx, ?_⟩
  unfold wayE
  rw [hE] at hok ⊢
  exact wayR_suf E hok hx

theorem below_set13 {B b o : Nat} {w w' : World} {v : Value} (h : Below B w w') (hb : B ≤ b) : Below B w (w'.setCell ⟨b, o, none⟩ v) :=
  ⟨h.os, h.tape, h.output, by have := h.size; simpa [World.setCell] using this, fun k hk => (heap_setCell_other _ _ _ _ (by simp; omega)).trans (h.block k hk)⟩

/-- What the search answers. -/
def WayPost13 (nx : Nat → List Nat) (f to : Nat) (w : World) (E : Ending) (w' : World) : Prop :=
  ∃ v, (to ∈ nmsR (bfsE nx f) ∧ E = .returned (.tuple #[v, .bool true]) ∧ RowI w' w.heap.size v (intsW (wayE nx f to)) ∨ to ∉ nmsR (bfsE nx f) ∧ E = .returned (.tuple #[v, .bool false]) ∧ RowI w' w.heap.size v []) ∧ Below w.heap.size w w'

end Go.Proofs.YtlddoookojjleaaGreatDoor
