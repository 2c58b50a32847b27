/-
  Every point leads on: plain. From each point a later one is reached in one step or two, so the last one from all.
-/
import Derived.Test.YtfkhgdbnjcdlmaaGreatDoorZBase
import Derived.Test.YtfkhgdbnjcdlmaaGreatDoorZMem
namespace Go.Proofs.YtfkhgdbnjcdlmaaGreatDoor
open Go.RowKit Go.Deep
set_option linter.unusedVariables false

/-- Each point of a list that starts at k leads to a later one, in one step or two. -/
def Ons (k : Nat) (ds : List Nd) : Prop := ∀ i d, ds[i]? = some d → (∃ v : Nat, k + i < v ∧ (v : Int) ∈ d.next) ∨ (∃ (i' : Nat) (d' : Nd) (v : Nat), ds[i']? = some d' ∧ ((k + i' : Nat) : Int) ∈ d.next ∧ k + i < v ∧ (v : Int) ∈ d'.next)

theorem Ons.mid {k k' m : Nat} {A T B : List Nd} (hT : Ons k' T) (hA : A.length = m) (hk : k' = k + m) (i : Nat) (d : Nd) (hi : T[i]? = some d) :
    (∃ v : Nat, k + (m + i) < v ∧ (v : Int) ∈ d.next) ∨ (∃ (i' : Nat) (d' : Nd) (v : Nat), (A ++ (T ++ B))[i']? = some d' ∧ ((k + i' : Nat) : Int) ∈ d.next ∧ k + (m + i) < v ∧ (v : Int) ∈ d'.next) := by
  subst hk hA
  rcases hT i d hi with ⟨v, h1, h2⟩ | ⟨i', d', v, h1, h2, h3, h4⟩
  · exact .inl ⟨v, by omega, h2⟩
  · refine .inr ⟨A.length + i', d', v, ?_, by rw [← Nat.add_assoc]; exact h2, by omega, h4⟩
    rw [List.getElem?_append_right (by omega), Nat.add_sub_cancel_left, List.getElem?_append_left (List.getElem?_eq_some_iff.mp h1).1]
    exact h1

theorem Ons.stPts (op x y n : Int) (k : Nat) (T E : List Nd) (hT : Ons (k + 1) T) (hE : Ons (k + 2 + T.length) E) : Ons k (stPts op x y n k T.length E.length T E) := by
  intro j d hj
  unfold Proofs.YtfkhgdbnjcdlmaaGreatDoor.stPts at hj ⊢
  by_cases h9 : op = 9
  · rw [if_pos h9] at hj ⊢
    by_cases h0 : j = 0
    · subst h0
      simp only [List.getElem?_cons_zero, Option.some.injEq] at hj
      subst hj
      exact .inl ⟨k + 1, by omega, by simp⟩
    · obtain ⟨i, rfl⟩ : ∃ i, j = 1 + i := ⟨j - 1, by omega⟩
      have hj' : (T ++ ((⟨10, 0, 0, 1, [((k + 2 + T.length + E.length : Nat) : Int)]⟩ : Nd) :: E))[i]? = some d := by
        rw [show 1 + i = i + 1 from by omega, List.getElem?_cons_succ] at hj; exact hj
      by_cases h1 : i < T.length
      · rw [List.getElem?_append_left h1] at hj'
        exact Ons.mid (k := k) (m := 1) (A := [_]) hT rfl rfl i d hj'
      · rw [List.getElem?_append_right (by omega)] at hj'
        by_cases h2 : i = T.length
        · subst h2
          rw [Nat.sub_self, List.getElem?_cons_zero, Option.some.injEq] at hj'
          subst hj'
          exact .inl ⟨k + 2 + T.length + E.length, by omega, by simp⟩
        · obtain ⟨u, rfl⟩ : ∃ u, i = T.length + 1 + u := ⟨i - (T.length + 1), by omega⟩
          rw [show T.length + 1 + u - T.length = u + 1 from by omega, List.getElem?_cons_succ] at hj'
          have h := Ons.mid (k := k) (m := T.length + 2) (A := (⟨9, 0, 0, 0, [((k + 1 : Nat) : Int), ((k + 2 + T.length : Nat) : Int)]⟩ : Nd) :: (T ++ [⟨10, 0, 0, 1, [((k + 2 + T.length + E.length : Nat) : Int)]⟩])) (B := []) hE (by simp) (by omega) u d hj'
          rw [show T.length + 2 + u = 1 + (T.length + 1 + u) from by omega] at h
          simpa using h
  · rw [if_neg h9] at hj ⊢
    by_cases h10 : op = 10
    · rw [if_pos h10] at hj ⊢
      by_cases h0 : j = 0
      · subst h0
        simp only [List.getElem?_cons_zero, Option.some.injEq] at hj
        subst hj
        exact .inl ⟨k + 1, by omega, by simp⟩
      · obtain ⟨i, rfl⟩ : ∃ i, j = 1 + i := ⟨j - 1, by omega⟩
        have hj' : (T ++ [(⟨10, 0, 0, 1, [(k : Int)]⟩ : Nd)])[i]? = some d := by
          rw [show 1 + i = i + 1 from by omega, List.getElem?_cons_succ] at hj; exact hj
        by_cases h1 : i < T.length
        · rw [List.getElem?_append_left h1] at hj'
          exact Ons.mid (k := k) (m := 1) (A := [_]) hT rfl rfl i d hj'
        · rw [List.getElem?_append_right (by omega)] at hj'
          have h2 : i = T.length := by
            have := (List.getElem?_eq_some_iff.mp hj').1
            simp at this
            omega
          subst h2
          rw [Nat.sub_self, List.getElem?_cons_zero, Option.some.injEq] at hj'
          subst hj'
          exact .inr ⟨0, _, k + 2 + T.length, by simp; rfl, by simp, by omega, by simp⟩
    · rw [if_neg h10] at hj ⊢
      have h0 : j = 0 := by
        have := (List.getElem?_eq_some_iff.mp hj).1
        simp at this
        omega
      subst h0
      simp only [List.getElem?_cons_zero, Option.some.injEq] at hj
      subst hj
      exact .inl ⟨k + 1, by omega, by simp⟩

theorem Ons.append {k : Nat} {A B : List Nd} (hA : Ons k A) (hB : Ons (k + A.length) B) : Ons k (A ++ B) := by
  intro j d hj
  by_cases h1 : j < A.length
  · rw [List.getElem?_append_left h1] at hj
    have h := Ons.mid (k := k) (m := 0) (A := []) (B := B) hA rfl rfl j d hj
    simpa using h
  · rw [List.getElem?_append_right (by omega)] at hj
    have h := Ons.mid (k := k) (m := A.length) (A := A) (B := []) hB rfl rfl (j - A.length) d hj
    rw [show A.length + (j - A.length) = j from by omega] at h
    simpa using h

theorem Sts.pts_ons (s : Sts) : ∀ k, Ons k (s.pts k) := by
  induction s with
  | nil => intro k j d hj; simp [Sts.pts] at hj
  | cons op x y n t e r iht ihe ihr =>
    intro k
    rw [Sts.pts_cons]
    have hl := stPts_len op x y n k t.npts e.npts (t.pts (k + 1)) (e.pts (k + 2 + t.npts)) (t.pts_len _) (e.pts_len _)
    refine Ons.append ?_ ?_
    · have h := Ons.stPts op x y n k (t.pts (k + 1)) (e.pts (k + 2 + t.npts)) (iht _) (by rw [t.pts_len]; exact ihe _)
      rw [t.pts_len, e.pts_len] at h
      exact h
    · rw [hl]
      exact ihr _

theorem mem_nextN_of {ns : List Nd} {a : Nat} {d : Nd} (h : ns[a]? = some d) {v : Nat} (hv : (v : Int) ∈ d.next) : v ∈ nextN ns a := by
  unfold nextN
  rw [nextP_some h, List.mem_map]
  exact ⟨(v : Int), hv, by simp⟩

theorem Reach.trans' {nx : Nat → List Nat} {a b c : Nat} (h : Reach nx a b) (k : Reach nx b c) : Reach nx a c := by
  induction k with
  | one h2 => exact .step h h2
  | step _ h2 ih => exact .step ih h2

/-- One step, and then on. -/
theorem reach_first {nx : Nat → List Nat} {a b : Nat} : Reach nx a b ↔ ∃ c ∈ nx a, c = b ∨ Reach nx c b := by
  constructor
  · intro h
    induction h with
    | one h => exact ⟨_, h, .inl rfl⟩
    | step h1 h2 ih =>
      obtain ⟨c, hc, hcb⟩ := ih
      refine ⟨c, hc, .inr ?_⟩
      rcases hcb with rfl | h
      · exact .one h2
      · exact .step h h2
  · rintro ⟨c, hc, rfl | h⟩
    · exact .one hc
    · exact Reach.trans' (.one hc) h

theorem progPts_on (s : Sts) (i : Nat) (hi : i < s.npts) : ∃ j, i < j ∧ j ≤ s.npts ∧ Reach (nextN (progPts s)) i j := by
  have hl : i < (s.pts 0).length := by rw [s.pts_len]; exact hi
  have hd : (s.pts 0)[i]? = some (s.pts 0)[i] := List.getElem?_eq_getElem hl
  have hP : ∀ u d, (s.pts 0)[u]? = some d → (progPts s)[u]? = some d := fun u d h => by
    unfold progPts
    rw [List.getElem?_append_left (List.getElem?_eq_some_iff.mp h).1]; exact h
  have hle : ∀ (u : Nat) (d : Nd) (v : Nat), (s.pts 0)[u]? = some d → (v : Int) ∈ d.next → v ≤ s.npts := fun u d v h1 h2 => by
    have h3 := (s.pts_ok 0 d (List.mem_of_getElem? h1)).2.2 (v : Int) h2
    omega
  rcases s.pts_ons 0 i _ hd with ⟨v, h1, h2⟩ | ⟨i', d', v, h1, h2, h3, h4⟩
  · exact ⟨v, by omega, hle _ _ _ hd h2, .one (mem_nextN_of (hP _ _ hd) h2)⟩
  · rw [Nat.zero_add] at h2
    exact ⟨v, by omega, hle _ _ _ h1 h4, .step (.one (mem_nextN_of (hP _ _ hd) h2)) (mem_nextN_of (hP _ _ h1) h4)⟩

/-- The last point is reached from each other one. -/
theorem progPts_last (s : Sts) : ∀ m i, s.npts - i = m → i < s.npts → Reach (nextN (progPts s)) i s.npts := by
  intro m
  induction m using Nat.strongRecOn with
  | ind m ih =>
    intro i hm hi
    obtain ⟨j, h1, h2, h3⟩ := progPts_on s i hi
    by_cases hj : j = s.npts
    · subst hj; exact h3
    · exact Reach.trans' h3 (ih (s.npts - j) (by omega) j rfl (by omega))

/-- Each point is reached from the first one. -/
theorem progPts_from {s : Sts} : ∀ k, k < (progPts s).length → k ≠ 0 → Reach (nextN (progPts s)) 0 k := by
  intro k
  induction k using Nat.strongRecOn with
  | ind k ih =>
    intro hk h0
    obtain ⟨j, d, hj, hd, hm⟩ := progPts_prev s k hk h0
    have he : k ∈ nextN (progPts s) j := mem_nextN_of hd hm
    by_cases h : j = 0
    · subst h; exact .one he
    · exact .step (ih j hj (by omega) h) he

end Go.Proofs.YtfkhgdbnjcdlmaaGreatDoor
