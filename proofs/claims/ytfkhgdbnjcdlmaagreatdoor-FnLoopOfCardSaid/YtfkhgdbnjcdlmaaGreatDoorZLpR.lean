/-
  Loops: plain. What leads into a loop and out of it; its points lead to each other, and its choice dominates them.
-/
import Derived.Test.YtfkhgdbnjcdlmaaGreatDoorZLpA
import Derived.Test.YtfkhgdbnjcdlmaaGreatDoorZDom
import Derived.Test.YtfkhgdbnjcdlmaaGreatDoorZPuE
namespace Go.Proofs.YtfkhgdbnjcdlmaaGreatDoor
open Go.RowKit Go.Deep
set_option linter.unusedVariables false

/-- Whether a point is in a loop. -/
def InL (z : Int × Int) (u : Int) : Prop := z.1 ≤ u ∧ u ≤ z.2

/-- What leads into a loop leads to its choice, and what leads out of it is its choice. -/
def Cl (z : Int × Int) (k : Nat) (ds : List Nd) : Prop := ∀ i d, ds[i]? = some d → ∀ v ∈ d.next,
  ((z.1 < v ∧ v ≤ z.2) → InL z ((k + i : Nat) : Int)) ∧ (InL z ((k + i : Nat) : Int) → ¬ InL z v → ((k + i : Nat) : Int) = z.1)

theorem Cl.append {z : Int × Int} {k : Nat} {A B : List Nd} (hA : Cl z k A) (hB : Cl z (k + A.length) B) : Cl z k (A ++ B) := by
  intro i d hi
  by_cases h : i < A.length
  · rw [List.getElem?_append_left h] at hi
    exact hA i d hi
  · rw [List.getElem?_append_right (by omega)] at hi
    have := hB _ d hi
    rw [show k + A.length + (i - A.length) = k + i from by omega] at this
    exact this

theorem Cl.one {z : Int × Int} {k : Nat} {d : Nd} (h : ∀ v ∈ d.next, ((z.1 < v ∧ v ≤ z.2) → InL z (k : Int)) ∧ (InL z (k : Int) → ¬ InL z v → (k : Int) = z.1)) : Cl z k [d] := by
  intro i d' hi v hv
  have : i = 0 := by
    have := (List.getElem?_eq_some_iff.mp hi).1
    simp at this
    omega
  subst this
  simp only [List.getElem?_cons_zero, Option.some.injEq] at hi
  subst hi
  exact h v hv

theorem Cl.out {z : Int × Int} {k : Nat} {ds : List Nd} (h : ∀ d ∈ ds, ∀ v ∈ d.next, ¬ (z.1 < v ∧ v ≤ z.2)) (hk : ((k + ds.length : Nat) : Int) ≤ z.1 ∨ z.2 < (k : Int)) : Cl z k ds := by
  intro i d hi v hv
  have hl := (List.getElem?_eq_some_iff.mp hi).1
  refine ⟨fun hc => absurd hc (h d (List.mem_of_getElem? hi) v hv), fun hc => ?_⟩
  unfold InL at hc
  omega

theorem inner_cl (at_ : Int) (s : Sts) : ∀ k z, inner at_ s k = some z → Cl z k (s.pts k) := by
  induction s with
  | nil => intro k z h; cases h
  | cons op x y n t e r iht ihe ihr =>
    intro k z h
    have hlen := stPts_len op x y n k t.npts e.npts (t.pts (k + 1)) (e.pts (k + 2 + t.npts)) (t.pts_len _) (e.pts_len _)
    have hr := r.pts_ok (k + stN op t.npts e.npts)
    have ht := t.pts_ok (k + 1)
    have he := e.pts_ok (k + 2 + t.npts)
    rw [Sts.pts_cons]
    simp only [inner] at h
    rcases or_some h with h | h
    · refine Cl.append ?_ ?_
      · unfold stPts
        by_cases h9 : op = 9
        · rw [if_pos h9] at h ⊢
          have hshape : ∀ a : Nd, ∀ c : Nd, a :: (t.pts (k + 1) ++ c :: e.pts (k + 2 + t.npts)) = [a] ++ (t.pts (k + 1) ++ ([c] ++ e.pts (k + 2 + t.npts))) := fun a c => rfl
          rw [hshape]
          rcases or_some h with h | h
          · have hz := inner_range at_ t _ _ h
            refine Cl.append (Cl.one fun v hv => ?_) (Cl.append ?_ (Cl.append (Cl.one fun v hv => ?_) ?_))
            · simp only [List.mem_cons, List.not_mem_nil, or_false] at hv
              unfold InL
              rcases hv with rfl | rfl <;> exact ⟨fun _ => by omega, fun _ => by omega⟩
            · exact iht _ _ h
            · simp only [List.mem_cons, List.not_mem_nil, or_false] at hv
              subst hv
              unfold InL
              simp only [List.length_cons, List.length_nil, t.pts_len]
              exact ⟨fun _ => by omega, fun _ => by omega⟩
            · simp only [List.length_cons, List.length_nil, t.pts_len]
              rw [show k + (0 + 1) + t.npts + (0 + 1) = k + 2 + t.npts from by omega]
              exact Cl.out (fun d hd v hv => by have := (he d hd).2.2 v hv; omega) (.inr (by omega))
          · have hz := inner_range at_ e _ _ h
            refine Cl.append (Cl.one fun v hv => ?_) (Cl.append ?_ (Cl.append (Cl.one fun v hv => ?_) ?_))
            · simp only [List.mem_cons, List.not_mem_nil, or_false] at hv
              unfold InL
              rcases hv with rfl | rfl <;> exact ⟨fun _ => by omega, fun _ => by omega⟩
            · simp only [List.length_cons, List.length_nil]
              rw [show k + (0 + 1) = k + 1 from by omega]
              exact Cl.out (fun d hd v hv => by have := (ht d hd).2.2 v hv; omega) (.inl (by rw [t.pts_len]; omega))
            · simp only [List.mem_cons, List.not_mem_nil, or_false] at hv
              subst hv
              unfold InL
              simp only [List.length_cons, List.length_nil, t.pts_len]
              exact ⟨fun _ => by omega, fun _ => by omega⟩
            · simp only [List.length_cons, List.length_nil, t.pts_len]
              rw [show k + (0 + 1) + t.npts + (0 + 1) = k + 2 + t.npts from by omega]
              exact ihe _ _ h
        · rw [if_neg h9] at h ⊢
          by_cases h10 : op = 10
          · rw [if_pos h10] at h ⊢
            have hshape : ∀ a : Nd, ∀ c : Nd, a :: (t.pts (k + 1) ++ [c]) = [a] ++ (t.pts (k + 1) ++ [c]) := fun a c => rfl
            rw [hshape]
            rcases or_some h with h | h
            · have hz := inner_range at_ t _ _ h
              refine Cl.append (Cl.one fun v hv => ?_) (Cl.append (iht _ _ h) (Cl.one fun v hv => ?_))
              · simp only [List.mem_cons, List.not_mem_nil, or_false] at hv
                unfold InL
                rcases hv with rfl | rfl <;> exact ⟨fun _ => by omega, fun _ => by omega⟩
              · simp only [List.mem_cons, List.not_mem_nil, or_false] at hv
                subst hv
                unfold InL
                simp only [List.length_cons, List.length_nil, t.pts_len]
                exact ⟨fun _ => by omega, fun _ => by omega⟩
            · by_cases hc : (k : Int) ≤ at_ ∧ at_ ≤ ((k + 1 + t.npts : Nat) : Int)
              · rw [if_pos hc] at h
                injection h with h
                subst h
                refine Cl.append (Cl.one fun v hv => ?_) (Cl.append ?_ (Cl.one fun v hv => ?_))
                · unfold InL
                  exact ⟨fun _ => by simp only; omega, fun _ _ => rfl⟩
                · intro i d hi v hv
                  have hb := (ht d (List.mem_of_getElem? hi)).2.2 v hv
                  have hl := (List.getElem?_eq_some_iff.mp hi).1
                  rw [t.pts_len] at hl
                  unfold InL
                  simp only [List.length_cons, List.length_nil]
                  exact ⟨fun _ => by omega, fun _ h => absurd (by omega) h⟩
                · simp only [List.mem_cons, List.not_mem_nil, or_false] at hv
                  subst hv
                  unfold InL
                  simp only [List.length_cons, List.length_nil, t.pts_len]
                  exact ⟨fun _ => by omega, fun _ h => absurd (by omega) h⟩
              · rw [if_neg hc] at h
                cases h
          · rw [if_neg h10] at h
            cases h
      · rw [hlen]
        have hz : z.2 < ((k + stN op t.npts e.npts : Nat) : Int) := by
          have h3 : inner at_ (.cons op x y n t e .nil) k = some z := by
            simp only [inner]
            rw [h]
            rfl
          have h4 := inner_range at_ _ _ _ h3
          simp only [Sts.npts, Nat.add_zero] at h4
          omega
        exact Cl.out (fun d hd v hv => by have := (hr d hd).2.2 v hv; omega) (.inr (by omega))
    · have hz := inner_range at_ r _ _ h
      refine Cl.append ?_ (by rw [hlen]; exact ihr _ _ h)
      have hone := (Sts.cons op x y n t e .nil).pts_ok k
      rw [Sts.pts_cons] at hone
      simp only [Sts.pts, List.append_nil, Sts.npts, Nat.add_zero] at hone
      exact Cl.out (fun d hd v hv => by have := (hone d hd).2.2 v hv; omega) (.inl (by rw [hlen]; omega))

theorem prog_cl {at_ : Int} {s : Sts} {z : Int × Int} (h : inner at_ s 0 = some z) : Cl z 0 (progPts s) := by
  refine Cl.append (inner_cl at_ s 0 z h) (Cl.one fun v hv => by cases hv)

theorem next_edge {ns : List Nd} {u v : Nat} (h : v ∈ nextN ns u) (hp : ∀ d ∈ ns, ∀ z ∈ d.next, (0 : Int) ≤ z) : ∃ d, ns[u]? = some d ∧ (v : Int) ∈ d.next := by
  unfold nextN nextP at h
  cases hd : ns[u]? with
  | none => rw [hd] at h; simp at h
  | some d =>
    rw [hd] at h
    simp only [Option.map_some, Option.getD_some, List.mem_map] at h
    obtain ⟨z, hz, e⟩ := h
    have := hp d (List.mem_of_getElem? hd) z hz
    exact ⟨d, rfl, by rw [← e, Int.toNat_of_nonneg this]; exact hz⟩

theorem prog_nonneg (s : Sts) : ∀ d ∈ progPts s, ∀ z ∈ d.next, (0 : Int) ≤ z := by
  intro d hd z hz
  unfold progPts at hd
  rw [List.mem_append] at hd
  rcases hd with hd | hd
  · have := (s.pts_ok 0 d hd).2.2 z hz
    omega
  · simp only [List.mem_cons, List.not_mem_nil, or_false] at hd
    subst hd
    cases hz

/-- A loop: what leads into it and out of it. -/
structure LoopP (nx : Nat → List Nat) (i j n : Nat) : Prop where
  lt : i < j
  len : j + 1 < n
  into : ∀ u v, v ∈ nx u → i < v → v ≤ j → i ≤ u ∧ u ≤ j
  outof : ∀ u v, v ∈ nx u → i ≤ u → u ≤ j → ¬ (i ≤ v ∧ v ≤ j) → u = i

theorem loop_of {at_ : Int} {s : Sts} {z : Int × Int} (h : inner at_ s 0 = some z) : ∃ i j : Nat, z = ((i : Int), (j : Int)) ∧ (i : Int) ≤ at_ ∧ at_ ≤ j ∧ LoopP (nextN (progPts s)) i j (progPts s).length := by
  have hr := inner_range at_ s 0 z h
  have hc := prog_cl h
  refine ⟨z.1.toNat, z.2.toNat, Prod.ext (by simp only; omega) (by simp only; omega), by omega, by omega, by omega, by rw [progPts_len]; omega, fun u v hv h1 h2 => ?_, fun u v hv h1 h2 h3 => ?_⟩
  · obtain ⟨d, hd, hm⟩ := next_edge hv (prog_nonneg s)
    have := (hc u d hd (v : Int) hm).1 (by omega)
    unfold InL at this
    omega
  · obtain ⟨d, hd, hm⟩ := next_edge hv (prog_nonneg s)
    have := (hc u d hd (v : Int) hm).2 (by unfold InL; omega) (by unfold InL; omega)
    omega

theorem LoopP.from_ {nx : Nat → List Nat} {i j n : Nat} (h : LoopP nx i j n) (hA : Asc nx n) : ∀ p, i < p → p ≤ j → Reach nx i p := by
  intro p
  induction p using Nat.strongRecOn with
  | ind p ih =>
    intro h1 h2
    obtain ⟨u, hu, hm⟩ := hA p (by have := h.len; omega) (by omega)
    have hin := h.into u p hm h1 h2
    by_cases e : u = i
    · subst e
      exact .one hm
    · exact .step (ih u hu (by omega) (by omega)) hm

theorem LoopP.to {nx : Nat → List Nat} {i j n a : Nat} (h : LoopP nx i j n) (h1 : i ≤ a) (h2 : a ≤ j) (hne : a ≠ i) {b : Nat} (hr : Reach nx a b) (hb : ¬ (i ≤ b ∧ b ≤ j)) : Reach nx a i := by
  induction hr with
  | one hm => exact absurd (h.outof a _ hm h1 h2 hb) hne
  | @step c d hr hm ih =>
    by_cases hc : i ≤ c ∧ c ≤ j
    · have e := h.outof c d hm hc.1 hc.2 hb
      rw [← e]
      exact hr
    · exact ih hc

theorem LoopP.dom {nx : Nat → List Nat} {i j n : Nat} (h : LoopP nx i j n) {p : Nat} (h1 : i ≤ p) (h2 : p ≤ j) : DomP nx i p := by
  intro hw
  have : ¬ (i ≤ p ∧ p ≤ j) := by
    refine hw.ind (P := fun x => ¬ (i ≤ x ∧ x ≤ j)) (fun h0 hc => h0 (by omega)) (fun y x hy ih hx hxi hc => ?_)
    exact ih (h.into y x hx (by omega) hc.2)
  exact this ⟨h1, h2⟩

theorem loop_reach {at_ : Int} {s : Sts} {i j : Nat} (h : LoopP (nextN (progPts s)) i j (progPts s).length) {a p : Nat} (h1 : i ≤ a) (h2 : a ≤ j) (h3 : i ≤ p) (h4 : p ≤ j) : Reach (nextN (progPts s)) a p := by
  have hA := progPts_asc s
  have hlen := h.len
  have hlt := h.lt
  have hto : ∀ a, i ≤ a → a ≤ j → a ≠ i → Reach (nextN (progPts s)) a i := by
    intro a h1 h2 hne
    rw [progPts_len] at hlen
    exact h.to h1 h2 hne (progPts_last s _ a rfl (by omega)) (by omega)
  by_cases ea : a = i
  · subst ea
    by_cases ep : p = a
    · subst ep
      exact Reach.trans' (h.from_ hA (p + 1) (by omega) (by omega)) (hto (p + 1) (by omega) (by omega) (by omega))
    · exact h.from_ hA p (by omega) h4
  · have hi := hto a h1 h2 ea
    by_cases ep : p = i
    · subst ep
      exact hi
    · exact Reach.trans' hi (h.from_ hA p (by omega) h4)

end Go.Proofs.YtfkhgdbnjcdlmaaGreatDoor
