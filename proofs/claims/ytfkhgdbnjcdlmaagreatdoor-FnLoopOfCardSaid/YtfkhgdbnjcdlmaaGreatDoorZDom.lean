/-
  Points that are always passed: plain. Ways that don't pass a point, what dominates, and the last one that does.
-/
import Derived.Test.YtfkhgdbnjcdlmaaGreatDoorZBase
import Derived.Test.YtfkhgdbnjcdlmaaGreatDoorZMem
namespace Go.Proofs.YtfkhgdbnjcdlmaaGreatDoor
open Go.RowKit Go.Deep
set_option linter.unusedVariables false

/-- The steps, those that lead out of b left out. -/
def cutN (nx : Nat → List Nat) (b : Nat) : Nat → List Nat := fun k => if k = b then [] else nx k

/-- A way from a to x, of no steps or more, that does not pass b. -/
def WayW (nx : Nat → List Nat) (b a x : Nat) : Prop := x ≠ b ∧ (x = a ∨ Reach (cutN nx b) a x)

/-- Each way from 0 to x passes a. -/
def DomP (nx : Nat → List Nat) (a x : Nat) : Prop := ¬ WayW nx a 0 x

theorem mem_cutN {nx : Nat → List Nat} {b k x : Nat} : x ∈ cutN nx b k ↔ k ≠ b ∧ x ∈ nx k := by
  unfold cutN
  by_cases h : k = b
  · simp [h]
  · simp [h]

theorem cutN_self {nx : Nat → List Nat} {b x : Nat} (h : Reach (cutN nx b) b x) : False := by
  have : ∀ c y, Reach (cutN nx b) c y → c = b → False := by
    intro c y h
    induction h with
    | one h => intro e; exact (mem_cutN.mp h).1 e
    | step _ _ ih => exact ih
  exact this _ _ h rfl

theorem WayW.step {nx : Nat → List Nat} {b a y x : Nat} (h : WayW nx b a y) (hx : x ∈ nx y) (hb : x ≠ b) : WayW nx b a x := by
  refine ⟨hb, .inr ?_⟩
  have hc : x ∈ cutN nx b y := mem_cutN.mpr ⟨h.1, hx⟩
  rcases h.2 with rfl | h2
  · exact .one hc
  · exact .step h2 hc

/-- The last step of a way. -/
theorem WayW.last {nx : Nat → List Nat} {b a x : Nat} (h : WayW nx b a x) : x = a ∨ ∃ y, WayW nx b a y ∧ x ∈ nx y := by
  rcases h.2 with h2 | h2
  · exact .inl h2
  · cases h2 with
    | one h3 =>
      have := mem_cutN.mp h3
      exact .inr ⟨a, ⟨this.1, .inl rfl⟩, this.2⟩
    | step h3 h4 =>
      have := mem_cutN.mp h4
      exact .inr ⟨_, ⟨this.1, .inr h3⟩, this.2⟩

theorem WayW.ind {nx : Nat → List Nat} {b a : Nat} {P : Nat → Prop} (h0 : a ≠ b → P a) (hs : ∀ y x, WayW nx b a y → P y → x ∈ nx y → x ≠ b → P x) {x : Nat} (h : WayW nx b a x) : P x := by
  obtain ⟨hb, h2⟩ := h
  rcases h2 with rfl | h2
  · exact h0 hb
  · induction h2 with
    | one h3 =>
      obtain ⟨h4, h5⟩ := mem_cutN.mp h3
      exact hs _ _ ⟨h4, .inl rfl⟩ (h0 h4) h5 hb
    | step h3 h4 ih =>
      obtain ⟨h5, h6⟩ := mem_cutN.mp h4
      exact hs _ _ ⟨h5, .inr h3⟩ (ih h5) h6 hb

theorem WayW.ne_self {nx : Nat → List Nat} {b x : Nat} (h : WayW nx b b x) : False := by
  rcases h.2 with h2 | h2
  · exact h.1 h2
  · exact cutN_self h2

theorem DomP.self (nx : Nat → List Nat) (a : Nat) : DomP nx a a := fun h => h.1 rfl

theorem DomP.zero (nx : Nat → List Nat) (x : Nat) : DomP nx 0 x := fun h => h.ne_self

theorem DomP.of_zero {nx : Nat → List Nat} {a : Nat} (h : DomP nx a 0) : a = 0 := by
  by_cases e : a = 0
  · exact e
  · exact absurd ⟨fun h => e h.symm, .inl rfl⟩ h

/-- What dominates the points before a point dominates it, and the other way round. -/
theorem DomP.step {nx : Nat → List Nat} {a b : Nat} (h0 : b ≠ 0) (hab : a ≠ b) : DomP nx a b ↔ ∀ i, b ∈ nx i → DomP nx a i := by
  constructor
  · intro h i hi hw
    exact h (hw.step hi (fun e => hab e.symm))
  · intro h hw
    rcases hw.last with e | ⟨y, hy, hb⟩
    · exact h0 e
    · exact h y hb hy

theorem DomP.trans {nx : Nat → List Nat} {a b c : Nat} (h : DomP nx a b) (k : DomP nx b c) : DomP nx a c := by
  intro hw
  have : ¬ DomP nx b c := by
    refine hw.ind (P := fun x => ¬ DomP nx b x) (fun h0 hb => ?_) (fun y x hy ih hx hxa hb => ?_)
    · have := hb.of_zero
      subst this
      exact h0 h.of_zero.symm
    · by_cases e : b = x
      · subst e
        exact h (hy.step hx hxa)
      · by_cases e0 : x = 0
        · subst e0
          exact e hb.of_zero
        · exact ih ((DomP.step e0 e).mp hb y hx)
  exact this k

/-- Each point but the first has one before it that leads to it. -/
def Asc (nx : Nat → List Nat) (n : Nat) : Prop := ∀ k, k < n → k ≠ 0 → ∃ j, j < k ∧ k ∈ nx j

theorem Asc.way {nx : Nat → List Nat} {n : Nat} (hA : Asc nx n) (a : Nat) : ∀ x, x < n → x < a → WayW nx a 0 x := by
  intro x
  induction x using Nat.strongRecOn with
  | ind x ih =>
    intro hx ha
    by_cases h0 : x = 0
    · subst h0
      exact ⟨by omega, .inl rfl⟩
    · obtain ⟨j, hj, hm⟩ := hA x hx h0
      exact (ih j hj (by omega) (by omega)).step hm (by omega)

theorem DomP.le {nx : Nat → List Nat} {n : Nat} (hA : Asc nx n) {a b : Nat} (hb : b < n) (h : DomP nx a b) : a ≤ b := by
  rcases Nat.lt_or_ge b a with h1 | h1
  · exact absurd (hA.way a b hb h1) h
  · exact h1

theorem DomP.antisymm {nx : Nat → List Nat} {n : Nat} (hA : Asc nx n) {a b : Nat} (ha : a < n) (hb : b < n) (h : DomP nx a b) (k : DomP nx b a) : a = b :=
  Nat.le_antisymm (h.le hA hb) (k.le hA ha)

/-- Of two that dominate a point, the lesser one dominates the other. -/
theorem DomP.chain {nx : Nat → List Nat} {n : Nat} (hA : Asc nx n) {a c : Nat} (hac : a ≤ c) : ∀ b, b < n → DomP nx a b → DomP nx c b → DomP nx a c := by
  intro b hb ha hc hw
  have key : ∀ b, b < n → DomP nx c b → WayW nx a 0 b := by
    intro b
    induction b using Nat.strongRecOn with
    | ind b ih =>
      intro hb hc
      by_cases e : b = c
      · subst e; exact hw
      · have hle := hc.le hA hb
        have hac' : a ≠ c := fun e => hw.1 e.symm
        obtain ⟨j, hj, hm⟩ := hA b hb (by omega)
        exact (ih j hj (by omega) ((DomP.step (by omega) (fun h => e h.symm)).mp hc j hm)).step hm (by omega)
  exact ha (key b hb hc)

/-- The greatest number below k with a property, 0 if there is none. -/
def lastB (p : Nat → Bool) : Nat → Nat
  | 0 => 0
  | k + 1 => if p k then k else lastB p k

theorem lastB_max (p : Nat → Bool) : ∀ k i, i < k → p i = true → i ≤ lastB p k
  | 0, i, h, _ => by omega
  | k + 1, i, h, hp => by
    unfold lastB
    by_cases e : p k = true
    · rw [if_pos e]; omega
    · rw [if_neg e]
      have : i ≠ k := fun h => e (h ▸ hp)
      exact lastB_max p k i (by omega) hp

theorem lastB_has (p : Nat → Bool) : ∀ k, (∃ i, i < k ∧ p i = true) → lastB p k < k ∧ p (lastB p k) = true
  | 0, h => by obtain ⟨i, h, _⟩ := h; omega
  | k + 1, h => by
    unfold lastB
    by_cases e : p k = true
    · rw [if_pos e]; exact ⟨by omega, e⟩
    · rw [if_neg e]
      obtain ⟨i, h1, h2⟩ := h
      have hne : i ≠ k := fun h => e (h ▸ h2)
      have := lastB_has p k ⟨i, by omega, h2⟩
      exact ⟨by omega, this.2⟩

open Classical in
/-- Whether a dominates b, and is another. -/
noncomputable def domB (nx : Nat → List Nat) (b : Nat) : Nat → Bool := fun a => decide (a < b ∧ DomP nx a b)

theorem domB_iff {nx : Nat → List Nat} {a b : Nat} : domB nx b a = true ↔ a < b ∧ DomP nx a b := by
  unfold domB
  simp

/-- The last one that dominates b, other than b. -/
noncomputable def parN (nx : Nat → List Nat) (n b : Nat) : Nat := lastB (domB nx b) n

theorem parN_is {nx : Nat → List Nat} {n b : Nat} (hb : b < n) (h0 : b ≠ 0) : parN nx n b < b ∧ DomP nx (parN nx n b) b := by
  have := lastB_has (domB nx b) n ⟨0, by omega, domB_iff.mpr ⟨by omega, DomP.zero nx b⟩⟩
  exact domB_iff.mp this.2

theorem parN_dom {nx : Nat → List Nat} {n a b : Nat} (hA : Asc nx n) (hb : b < n) (h0 : b ≠ 0) (hne : a ≠ b) : DomP nx a b ↔ DomP nx a (parN nx n b) := by
  obtain ⟨h1, h2⟩ := parN_is (nx := nx) hb h0
  constructor
  · intro h
    have hle := h.le hA hb
    have := lastB_max (domB nx b) n a (by omega) (domB_iff.mpr ⟨by omega, h⟩)
    exact DomP.chain hA this b hb h h2
  · intro h
    exact h.trans h2

/-- Each way from a to the last point passes b. -/
def RchP (nx : Nat → List Nat) (n a b : Nat) : Prop := ¬ WayW nx b a (n - 1)

theorem RchP.self (nx : Nat → List Nat) (n a : Nat) : RchP nx n a a := fun h => h.ne_self

theorem RchP.end_ (nx : Nat → List Nat) (n a : Nat) : RchP nx n a (n - 1) := fun h => h.1 rfl

theorem way_front {nx : Nat → List Nat} {b a y x : Nat} (h : y ∈ nx a) (hab : a ≠ b) (k : WayW nx b y x) : WayW nx b a x := by
  refine ⟨k.1, .inr ?_⟩
  have hc : y ∈ cutN nx b a := mem_cutN.mpr ⟨hab, h⟩
  rcases k.2 with rfl | k2
  · exact .one hc
  · clear k
    induction k2 with
    | one h3 => exact .step (.one hc) h3
    | step _ h4 ih => exact .step ih h4

theorem way_split {nx : Nat → List Nat} {b c a x : Nat} (h : WayW nx c a x) : WayW nx b a x ∨ WayW nx c b x := by
  refine h.ind (P := fun x => WayW nx b a x ∨ WayW nx c b x) (fun h0 => ?_) (fun y x hy ih hx hc => ?_)
  · by_cases e : a = b
    · subst e; exact .inr ⟨h0, .inl rfl⟩
    · exact .inl ⟨e, .inl rfl⟩
  · by_cases e : x = b
    · subst e; exact .inr ⟨hc, .inl rfl⟩
    · rcases ih with ih | ih
      · exact .inl (ih.step hx e)
      · exact .inr (ih.step hx hc)

theorem RchP.trans {nx : Nat → List Nat} {n a b c : Nat} (h : RchP nx n a b) (k : RchP nx n b c) : RchP nx n a c := by
  intro hw
  rcases way_split (b := b) hw with h1 | h1
  · exact h h1
  · exact k h1

theorem progPts_asc (s : Sts) : Asc (nextN (progPts s)) (progPts s).length := by
  intro k hk h0
  obtain ⟨j, d, hj, hd, hm⟩ := progPts_prev s k hk h0
  refine ⟨j, hj, ?_⟩
  unfold nextN
  rw [nextP_some hd, List.mem_map]
  exact ⟨(k : Int), hm, by simp⟩

end Go.Proofs.YtfkhgdbnjcdlmaaGreatDoor
