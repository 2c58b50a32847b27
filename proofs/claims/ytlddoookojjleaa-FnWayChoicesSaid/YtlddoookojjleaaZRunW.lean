/-
  The choices of a run lead its way again: plain.
-/
import Derived.Test.YtlddoookojjleaaZWch
import Derived.Test.YtlddoookojjleaaZRunG
namespace Go.Proofs.Ytlddoookojjleaa
open Go.RowKit Go.Deep
set_option linter.unusedVariables false

theorem stepP_chc {nx c : List Int} {b : Int} (hl : nx.length ≤ 2) (hb : b ∈ nx) : stepP nx (chc nx b ++ c) = (b, c) := by
  match nx, hl, hb with
  | [x], _, hb =>
    have : b = x := by simpa using hb
    subst this
    simp [chc, stepP]
  | [x, y], _, hb =>
    have hb2 : b = x ∨ b = y := by simpa using hb
    by_cases e : x = b
    · subst e
      simp [chc, stepP]
    · have : b = y := hb2.resolve_left (fun h => e h.symm)
      subst this
      simp [chc, stepP, e]

/-- A run's choices, and what a run with them is. -/
theorem runP_way {ds : List Nd} {q : Nat} (hP : PtsOk q ds) : ∀ (m k : Nat) (ch l : List Int), k ≤ q → (runP ds m k ch).1 = (k : Int) :: l → ∃ c, wchP ds k l = some c ∧ ((runP ds m k ch).2 = true → runP ds m k c = runP ds m k ch) ∧ ∃ r, (runP ds m k c).1 = (runP ds m k ch).1 ++ r := by
  intro m
  induction m with
  | zero =>
    intro k ch l hk h
    by_cases hn : nextP ds k = []
    · rw [runP_end hn] at h ⊢
      simp only [List.cons.injEq, true_and] at h
      subst h
      exact ⟨[], rfl, fun _ => by rw [runP_end hn], [], by rw [runP_end hn]; rfl⟩
    · rw [runP_zero hn] at h
      cases h
  | succ m ih =>
    intro k ch l hk h
    by_cases hn : nextP ds k = []
    · rw [runP_end hn] at h ⊢
      simp only [List.cons.injEq, true_and] at h
      subst h
      exact ⟨[], rfl, fun _ => by rw [runP_end hn], [], by rw [runP_end hn]; rfl⟩
    · have hmem := stepP_mem (ch := ch) hn
      have hkq : k < q := by
        rcases Nat.lt_or_ge k q with h1 | h1
        · exact h1
        · exfalso
          have e : k = q := by omega
          subst e
          exact hn (nextP_some hP.2.1)
      obtain ⟨d, hd, hN⟩ := hP.2.2 k hkq
      have hnx : nextP ds k = d.next := nextP_some hd
      have htwo : (nextP ds k).length ≤ 2 := by rw [hnx]; exact hN.two
      obtain ⟨k', hk', hkl⟩ := next_nat hP hd (b := (stepP (nextP ds k) ch).1) (by rw [← hnx]; exact hmem)
      have hk'q : k' ≤ q := by have := hP.1; omega
      have hr : runP ds (m + 1) k ch = ((k : Int) :: (runP ds m k' (stepP (nextP ds k) ch).2).1, (runP ds m k' (stepP (nextP ds k) ch).2).2) := runP_succ hn (Prod.ext hk' rfl)
      rw [hr] at h ⊢
      simp only [List.cons.injEq, true_and] at h
      rw [hk'] at hmem
      have hf := runP_fact hP m k' (stepP (nextP ds k) ch).2 hk'q
      rcases hf.head with h0 | h0
      · -- nothing behind
        rw [h0] at h
        subst h
        refine ⟨[], rfl, fun e => absurd h0 (hf.any e), ?_⟩
        have hmem2 := stepP_mem (ch := ([] : List Int)) hn
        obtain ⟨k2, hk2, _⟩ := next_nat hP hd (b := (stepP (nextP ds k) []).1) (by rw [← hnx]; exact hmem2)
        rw [runP_succ hn (Prod.ext hk2 rfl : stepP (nextP ds k) [] = ((k2 : Int), _))]
        exact ⟨_, by simp [h0]; rfl⟩
      · obtain ⟨l', hl'⟩ : ∃ l', (runP ds m k' (stepP (nextP ds k) ch).2).1 = (k' : Int) :: l' := by
          cases hh : (runP ds m k' (stepP (nextP ds k) ch).2).1 with
          | nil => rw [hh] at h0; cases h0
          | cons x l' =>
            rw [hh] at h0
            simp only [List.getElem?_cons_zero, Option.some.injEq] at h0
            exact ⟨l', by rw [h0]⟩
        obtain ⟨c, hc1, hc2, r, hc3⟩ := ih k' _ l' hk'q hl'
        have hle : l = (k' : Int) :: l' := by rw [← h, hl']
        subst hle
        have hst : stepP (nextP ds k) (chc (nextP ds k) (k' : Int) ++ c) = ((k' : Int), c) := stepP_chc htwo hmem
        refine ⟨chc (nextP ds k) (k' : Int) ++ c, ?_, fun e => ?_, r, ?_⟩
        · show (if (k' : Int) ∈ nextP ds k then (wchP ds (k' : Int).toNat l').map (chc (nextP ds k) (k' : Int) ++ ·) else none) = _
          rw [if_pos hmem, Int.toNat_natCast, hc1]
          rfl
        · rw [runP_succ hn hst, hc2 e]
        · rw [runP_succ hn hst]
          show (k : Int) :: (runP ds m k' c).1 = (k : Int) :: (runP ds m k' (stepP (nextP ds k) ch).2).1 ++ r
          rw [hc3]
          rfl

/-- A run that is answered, and its choices. -/
theorem run_way {ts : List Int} {s : Sts} {xs ys : List Int} {b : Bool} {q : Int} (h : runI (validB ts s) s xs q = (ys, b)) (hne : ys.length ≠ 0) :
    ∃ c, wchI (validB ts s) s ys = (c, true) ∧ ∃ zs b2, runI (validB ts s) s c q = (zs, b2) ∧ (b = true → zs = ys ∧ b2 = true) ∧ ∃ r, zs = ys ++ r := by
  unfold runI at h
  by_cases hc : validB ts s = true ∧ 0 ≤ q ∧ q ≤ 1000
  · rw [if_pos hc] at h
    have hD := progPts_ok s (valid_ok hc.1).2.1
    have hf := runP_fact hD q.toNat 0 xs (Nat.zero_le _)
    rw [h] at hf
    obtain ⟨l, hl⟩ : ∃ l, ys = (0 : Int) :: l := by
      rcases hf.head with h0 | h0
      · exact absurd (by rw [show ys = [] from h0]; rfl) hne
      · cases ys with
        | nil => cases h0
        | cons y l =>
          simp only [List.getElem?_cons_zero, Option.some.injEq] at h0
          exact ⟨l, by rw [h0]; rfl⟩
    subst hl
    obtain ⟨c, h1, h2, r, h3⟩ := runP_way hD q.toNat 0 xs l (Nat.zero_le _) (by rw [h]; rfl)
    rw [h] at h2 h3
    refine ⟨c, ?_, (runP (progPts s) q.toNat 0 c).1, (runP (progPts s) q.toNat 0 c).2, ?_, fun e => ?_, r, h3⟩
    · rw [hc.1, wchI_yes, h1]
    · unfold runI
      rw [if_pos hc]
    · have h4 := h2 e
      rw [h4]
      exact ⟨rfl, e⟩
  · rw [if_neg hc] at h
    injection h with h1 h2
    exact absurd (by rw [← h1]; rfl) hne

end Go.Proofs.Ytlddoookojjleaa
