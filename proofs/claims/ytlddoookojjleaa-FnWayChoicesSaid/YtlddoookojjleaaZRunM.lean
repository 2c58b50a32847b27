/-
  Runs as plain data: how long they are, longer runs, and other choices.
-/
import Derived.Test.YtlddoookojjleaaZBase
namespace Go.Proofs.Ytlddoookojjleaa
open Go.RowKit Go.Deep
set_option linter.unusedVariables false

theorem runP_len_le (ds : List Nd) (m : Nat) : ∀ k ch, (runP ds m k ch).1.length ≤ m + 1 := by
  induction m with
  | zero => intro k ch; unfold runP; split <;> simp
  | succ m ih =>
    intro k ch
    unfold runP
    split
    · simp
    · have := ih (stepP (nextP ds k) ch).1.toNat (stepP (nextP ds k) ch).2
      simp only [List.length_cons]
      omega

theorem runI_len_le (ok : Bool) (s : Sts) (ch : List Int) (most : Int) : (runI ok s ch most).1.length ≤ 1001 := by
  unfold runI
  split
  · rename_i h
    have := runP_len_le (progPts s) most.toNat 0 ch
    omega
  · simp

/-- A run that may be longer begins as the shorter one, and is the same where that one ends. -/
theorem runP_more (ds : List Nd) (d m : Nat) : ∀ k ch, (∃ r, (runP ds (m + d) k ch).1 = (runP ds m k ch).1 ++ r) ∧ ((runP ds m k ch).2 = true → runP ds (m + d) k ch = runP ds m k ch) := by
  induction m with
  | zero =>
    intro k ch
    by_cases h : nextP ds k = []
    · rw [runP_end h, runP_end h]
      exact ⟨⟨[], by simp⟩, fun _ => rfl⟩
    · rw [runP_zero h]
      exact ⟨⟨_, (List.nil_append _).symm⟩, fun e => by cases e⟩
  | succ m ih =>
    intro k ch
    by_cases h : nextP ds k = []
    · rw [runP_end h, runP_end h]
      exact ⟨⟨[], by simp⟩, fun _ => rfl⟩
    · rw [show m + 1 + d = (m + d) + 1 from by omega, runP, if_neg h, runP, if_neg h]
      obtain ⟨⟨r, hr⟩, he⟩ := ih (stepP (nextP ds k) ch).1.toNat (stepP (nextP ds k) ch).2
      exact ⟨⟨r, by simp only [hr, List.cons_append]⟩, fun e => by rw [he e]⟩

theorem runI_more (ok : Bool) (s : Sts) (ch : List Int) (most : Int) (h0 : 0 ≤ most) (h1 : most ≤ 900) : (∃ r, (runI ok s ch (most + 100)).1 = (runI ok s ch most).1 ++ r) ∧ ((runI ok s ch most).2 = true → runI ok s ch (most + 100) = runI ok s ch most) := by
  unfold runI
  by_cases hk : ok = true
  · rw [if_pos ⟨hk, by omega, by omega⟩, if_pos ⟨hk, by omega, by omega⟩, show (most + 100).toNat = most.toNat + 100 from by omega]
    exact runP_more _ _ _ _ _
  · rw [if_neg (fun h => hk h.1), if_neg (fun h => hk h.1)]
    exact ⟨⟨[], rfl⟩, fun _ => rfl⟩

/-- Choices that go the same ways. -/
inductive Same : List Int → List Int → Prop
  | tail : Same [] []
  | last (c : Int) (h : c % 2 ≠ 0) : Same [] [c]
  | cons (c d : Int) (cs ds : List Int) (h : c % 2 = 0 ↔ d % 2 = 0) (hs : Same cs ds) : Same (c :: cs) (d :: ds)

theorem stepP_same {nx ch ch' : List Int} (h : Same ch ch') : (stepP nx ch').1 = (stepP nx ch).1 ∧ Same (stepP nx ch).2 (stepP nx ch').2 := by
  match nx with
  | [] => exact ⟨rfl, h⟩
  | [a] => exact ⟨rfl, h⟩
  | a :: b :: l =>
    cases h with
    | tail => exact ⟨rfl, .tail⟩
    | last c hc => exact ⟨by show (if c % 2 = 0 then a else b) = b; rw [if_neg hc], .tail⟩
    | cons c d cs ds hcd hs =>
      refine ⟨?_, hs⟩
      show (if d % 2 = 0 then a else b) = (if c % 2 = 0 then a else b)
      by_cases hc : c % 2 = 0
      · rw [if_pos hc, if_pos (hcd.1 hc)]
      · rw [if_neg hc, if_neg (fun e => hc (hcd.2 e))]

theorem runP_same (ds : List Nd) (m : Nat) : ∀ k ch ch', Same ch ch' → runP ds m k ch' = runP ds m k ch := by
  induction m with
  | zero => intro k ch ch' _; unfold runP; rfl
  | succ m ih =>
    intro k ch ch' h
    obtain ⟨h1, h2⟩ := stepP_same (nx := nextP ds k) h
    rw [runP, runP, h1, ih _ _ _ h2]

theorem same_even (f : Int → Int) (hf : ∀ c, c % 2 = 0 ↔ f c % 2 = 0) : ∀ ch : List Int, Same ch (ch.map f ++ [1])
  | [] => .last 1 (by decide)
  | c :: cs => .cons c (f c) cs _ (hf c) (same_even f hf cs)

theorem runI_even (ok : Bool) (s : Sts) (ch : List Int) (most : Int) : runI ok s (ch.map (fun c => c.tmod 2) ++ [1]) most = runI ok s ch most := by
  unfold runI
  rw [runP_same _ _ _ _ _ (same_even (fun c => c.tmod 2) (fun c => by
    show c % 2 = 0 ↔ c.tmod 2 % 2 = 0
    constructor
    · intro h
      rw [Int.tmod_eq_zero_of_dvd (Int.dvd_of_emod_eq_zero h)]
      rfl
    · intro h
      have h1 := Int.mul_tdiv_add_tmod c 2
      omega) ch)]

end Go.Proofs.Ytlddoookojjleaa
