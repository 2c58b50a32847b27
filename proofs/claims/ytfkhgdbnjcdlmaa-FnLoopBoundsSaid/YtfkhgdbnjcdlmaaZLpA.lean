/-
  Loops: plain. The innermost loop of a point, by the statements; the jumps back in the order of points; the last choice of a loop that has the point.
-/
import Derived.Test.YtfkhgdbnjcdlmaaZBase
namespace Go.Proofs.Ytfkhgdbnjcdlmaa
open Go.RowKit Go.Deep
set_option linter.unusedVariables false

/-- The innermost loop in which a point is: its choice and its jump. -/
def inner (at_ : Int) : Sts → Nat → Option (Int × Int)
  | .nil, _ => none
  | .cons op _ _ _ t e r, k =>
    (if op = 9 then (inner at_ t (k + 1)).or (inner at_ e (k + 2 + t.npts))
      else if op = 10 then (inner at_ t (k + 1)).or (if (k : Int) ≤ at_ ∧ at_ ≤ ((k + 1 + t.npts : Nat) : Int) then some ((k : Int), ((k + 1 + t.npts : Nat) : Int)) else none)
      else none).or (inner at_ r (k + stN op t.npts e.npts))

theorem or_some {α : Type} {a b : Option α} {z : α} (h : a.or b = some z) : a = some z ∨ b = some z := by
  cases a
  · exact .inr h
  · exact .inl h

theorem inner_range (at_ : Int) (s : Sts) : ∀ k z, inner at_ s k = some z → (k : Int) ≤ z.1 ∧ z.1 < z.2 ∧ z.1 ≤ at_ ∧ at_ ≤ z.2 ∧ z.2 < ((k + s.npts : Nat) : Int) := by
  induction s with
  | nil => intro k z h; cases h
  | cons op x y n t e r iht ihe ihr =>
    intro k z h
    simp only [inner, Sts.npts] at h ⊢
    unfold stN at h ⊢
    rcases or_some h with h | h
    · by_cases h9 : op = 9
      · rw [if_pos h9] at h ⊢
        rcases or_some h with h | h
        · have := iht _ _ h
          omega
        · have := ihe _ _ h
          omega
      · rw [if_neg h9] at h ⊢
        by_cases h10 : op = 10
        · rw [if_pos h10] at h ⊢
          rcases or_some h with h | h
          · have := iht _ _ h
            omega
          · by_cases hc : (k : Int) ≤ at_ ∧ at_ ≤ ((k + 1 + t.npts : Nat) : Int)
            · rw [if_pos hc] at h
              injection h with h
              subst h
              simp only
              omega
            · rw [if_neg hc] at h
              cases h
        · rw [if_neg h10] at h
          cases h
    · have := ihr _ _ h
      by_cases h9 : op = 9
      · simp only [h9, if_true] at this ⊢
        omega
      · by_cases h10 : op = 10
        · simp only [h10, if_true] at this ⊢
          simp at this ⊢
          omega
        · simp only [h9, h10, if_false] at this ⊢
          omega

/-- One point more: the last choice of a loop that has the point. -/
def stepM (at_ : Int) (i : Nat) (d : Nd) (b : Option (Int × Int)) : Option (Int × Int) :=
  if d.op = 10 ∧ d.n = 0 ∧ (i : Int) ≤ at_ ∧ at_ < d.next.getD 1 0 then some ((i : Int), d.next.getD 1 0 - 1) else b

def foldM (at_ : Int) : List Nd → Nat → Option (Int × Int) → Option (Int × Int)
  | [], _, b => b
  | d :: ds, i, b => foldM at_ ds (i + 1) (stepM at_ i d b)

theorem foldM_append (at_ : Int) (A B : List Nd) : ∀ i b, foldM at_ (A ++ B) i b = foldM at_ B (i + A.length) (foldM at_ A i b) := by
  induction A with
  | nil => intro i b; rfl
  | cons d A ih =>
    intro i b
    simp only [List.cons_append, foldM, List.length_cons]
    rw [ih, show i + 1 + A.length = i + (A.length + 1) from by omega]

theorem foldM_snoc (at_ : Int) (A : List Nd) (d : Nd) (i : Nat) (b : Option (Int × Int)) : foldM at_ (A ++ [d]) i b = stepM at_ (i + A.length) d (foldM at_ A i b) := by
  rw [foldM_append]
  rfl

theorem or_apart {a b c : Option (Int × Int)} (h : a = none ∨ b = none) : b.or (a.or c) = (a.or b).or c := by
  rcases h with h | h <;> subst h
  · simp
  · simp

theorem foldM_inner (at_ : Int) (s : Sts) : ∀ k b, foldM at_ (s.pts k) k b = (inner at_ s k).or b := by
  induction s with
  | nil => intro k b; rfl
  | cons op x y n t e r iht ihe ihr =>
    intro k b
    have hone : ∀ b, foldM at_ (stPts op x y n k t.npts e.npts (t.pts (k + 1)) (e.pts (k + 2 + t.npts))) k b = (if op = 9 then (inner at_ t (k + 1)).or (inner at_ e (k + 2 + t.npts)) else if op = 10 then (inner at_ t (k + 1)).or (if (k : Int) ≤ at_ ∧ at_ ≤ ((k + 1 + t.npts : Nat) : Int) then some ((k : Int), ((k + 1 + t.npts : Nat) : Int)) else none) else none).or b := by
      intro b
      unfold stPts
      by_cases h9 : op = 9
      · rw [if_pos h9, if_pos h9]
        show foldM at_ (t.pts (k + 1) ++ _ :: e.pts (k + 2 + t.npts)) (k + 1) (stepM at_ k _ b) = _
        have e0 : ∀ l, stepM at_ k ⟨9, 0, 0, 0, l⟩ b = b := fun l => if_neg (fun h => absurd h.1 (by simp))
        rw [e0, foldM_append, iht, t.pts_len]
        show foldM at_ (e.pts (k + 2 + t.npts)) (k + 1 + t.npts + 1) (stepM at_ (k + 1 + t.npts) _ _) = _
        have e1 : ∀ l b, stepM at_ (k + 1 + t.npts) ⟨10, 0, 0, 1, l⟩ b = b := fun l b => if_neg (fun h => absurd h.2.1 (by simp))
        rw [e1, show k + 1 + t.npts + 1 = k + 2 + t.npts from by omega, ihe]
        apply or_apart
        cases ht : inner at_ t (k + 1) with
        | none => exact .inl rfl
        | some z =>
          right
          cases he : inner at_ e (k + 2 + t.npts) with
          | none => rfl
          | some z2 =>
            have h1 := inner_range at_ t _ _ ht
            have h2 := inner_range at_ e _ _ he
            omega
      · rw [if_neg h9, if_neg h9]
        by_cases h10 : op = 10
        · rw [if_pos h10, if_pos h10]
          show foldM at_ (t.pts (k + 1) ++ [_]) (k + 1) (stepM at_ k _ b) = _
          rw [foldM_snoc, iht, t.pts_len]
          have e1 : ∀ l b, stepM at_ (k + 1 + t.npts) ⟨10, 0, 0, 1, l⟩ b = b := fun l b => if_neg (fun h => absurd h.2.1 (by simp))
          rw [e1]
          have e2 : stepM at_ k ⟨10, 0, 0, 0, [((k + 1 : Nat) : Int), ((k + 2 + t.npts : Nat) : Int)]⟩ b = (if (k : Int) ≤ at_ ∧ at_ ≤ ((k + 1 + t.npts : Nat) : Int) then some ((k : Int), ((k + 1 + t.npts : Nat) : Int)) else none).or b := by
            unfold stepM
            simp only [List.getD_cons_succ, List.getD_cons_zero, true_and]
            by_cases hc : (k : Int) ≤ at_ ∧ at_ ≤ ((k + 1 + t.npts : Nat) : Int)
            · rw [if_pos hc, if_pos (by omega)]
              show some _ = some _
              congr 2
              omega
            · rw [if_neg hc, if_neg (by omega)]
              rfl
          rw [e2]
          cases inner at_ t (k + 1) <;> rfl
        · rw [if_neg h10, if_neg h10]
          show stepM at_ k ⟨op, x, y, n, _⟩ b = _
          rw [show stepM at_ k ⟨op, x, y, n, [((k + 1 : Nat) : Int)]⟩ b = b from if_neg (fun h => h10 h.1)]
          rfl
    rw [Sts.pts_cons, foldM_append, hone, stPts_len _ _ _ _ _ _ _ _ _ (t.pts_len _) (e.pts_len _), ihr]
    show _ = (Option.or (Option.or _ _) b)
    apply or_apart
    cases hr : inner at_ r (k + stN op t.npts e.npts) with
    | none => exact .inr rfl
    | some z =>
      left
      have h2 := inner_range at_ r _ _ hr
      cases ho : (if op = 9 then (inner at_ t (k + 1)).or (inner at_ e (k + 2 + t.npts)) else if op = 10 then (inner at_ t (k + 1)).or (if (k : Int) ≤ at_ ∧ at_ ≤ ((k + 1 + t.npts : Nat) : Int) then some ((k : Int), ((k + 1 + t.npts : Nat) : Int)) else none) else none) with
      | none => rfl
      | some z2 =>
        exfalso
        have h3 : inner at_ (.cons op x y n t e .nil) k = some z2 := by
          simp only [inner]
          rw [ho]
          rfl
        have h4 := inner_range at_ _ _ _ h3
        simp only [Sts.npts, Nat.add_zero] at h4
        omega

/-- The jumps back, in the order of their points: where they lead to, and from. -/
def backsOf (d : Nd) (i : Nat) : List (Int × Int) := (d.next.filter fun v => decide (v < (i : Int))).map fun v => (v, (i : Int))

def backs : List Nd → Nat → List (Int × Int)
  | [], _ => []
  | d :: ds, i => backsOf d i ++ backs ds (i + 1)

theorem backs_append (A B : List Nd) : ∀ i, backs (A ++ B) i = backs A i ++ backs B (i + A.length) := by
  induction A with
  | nil => intro i; rfl
  | cons d A ih =>
    intro i
    simp only [List.cons_append, backs, List.length_cons]
    rw [ih, List.append_assoc, show i + 1 + A.length = i + (A.length + 1) from by omega]

def hasI (at_ : Int) (z : Int × Int) : Bool := decide (z.1 ≤ at_) && decide (at_ ≤ z.2)

theorem backs_inner (at_ : Int) (s : Sts) : ∀ k, (backs (s.pts k) k).find? (hasI at_) = inner at_ s k := by
  induction s with
  | nil => intro k; rfl
  | cons op x y n t e r iht ihe ihr =>
    intro k
    have hone : (backs (stPts op x y n k t.npts e.npts (t.pts (k + 1)) (e.pts (k + 2 + t.npts))) k).find? (hasI at_) = (if op = 9 then (inner at_ t (k + 1)).or (inner at_ e (k + 2 + t.npts)) else if op = 10 then (inner at_ t (k + 1)).or (if (k : Int) ≤ at_ ∧ at_ ≤ ((k + 1 + t.npts : Nat) : Int) then some ((k : Int), ((k + 1 + t.npts : Nat) : Int)) else none) else none) := by
      unfold stPts
      by_cases h9 : op = 9
      · rw [if_pos h9, if_pos h9]
        show (backsOf _ k ++ backs (t.pts (k + 1) ++ _ :: e.pts (k + 2 + t.npts)) (k + 1)).find? (hasI at_) = _
        have e0 : backsOf ⟨9, 0, 0, 0, [((k + 1 : Nat) : Int), ((k + 2 + t.npts : Nat) : Int)]⟩ k = [] := by
          unfold backsOf
          rw [List.filter_cons_of_neg (by simp; omega), List.filter_cons_of_neg (by simp; omega)]
          rfl
        rw [e0, List.nil_append, backs_append, List.find?_append, iht, t.pts_len]
        show Option.or _ ((backsOf _ (k + 1 + t.npts) ++ backs (e.pts (k + 2 + t.npts)) (k + 1 + t.npts + 1)).find? (hasI at_)) = _
        have e1 : backsOf ⟨10, 0, 0, 1, [((k + 2 + t.npts + e.npts : Nat) : Int)]⟩ (k + 1 + t.npts) = [] := by
          unfold backsOf
          rw [List.filter_cons_of_neg (by simp; omega)]
          rfl
        rw [e1, List.nil_append, show k + 1 + t.npts + 1 = k + 2 + t.npts from by omega, ihe]
      · rw [if_neg h9, if_neg h9]
        by_cases h10 : op = 10
        · rw [if_pos h10, if_pos h10]
          show (backsOf _ k ++ backs (t.pts (k + 1) ++ [_]) (k + 1)).find? (hasI at_) = _
          have e0 : backsOf ⟨10, 0, 0, 0, [((k + 1 : Nat) : Int), ((k + 2 + t.npts : Nat) : Int)]⟩ k = [] := by
            unfold backsOf
            rw [List.filter_cons_of_neg (by simp; omega), List.filter_cons_of_neg (by simp; omega)]
            rfl
          rw [e0, List.nil_append, backs_append, List.find?_append, iht, t.pts_len]
          show Option.or _ ((backsOf _ (k + 1 + t.npts) ++ []).find? (hasI at_)) = _
          have e1 : backsOf ⟨10, 0, 0, 1, [(k : Int)]⟩ (k + 1 + t.npts) = [((k : Int), ((k + 1 + t.npts : Nat) : Int))] := by
            unfold backsOf
            rw [List.filter_cons_of_pos (by simp; omega)]
            rfl
          rw [e1]
          congr 1
          simp only [List.append_nil, List.find?_cons, List.find?_nil, hasI]
          by_cases hc : (k : Int) ≤ at_ ∧ at_ ≤ ((k + 1 + t.npts : Nat) : Int)
          · rw [if_pos hc, decide_eq_true hc.1, decide_eq_true hc.2]
            rfl
          · rw [if_neg hc]
            have : (decide ((k : Int) ≤ at_) && decide (at_ ≤ ((k + 1 + t.npts : Nat) : Int))) = false := by
              cases h : (decide ((k : Int) ≤ at_) && decide (at_ ≤ ((k + 1 + t.npts : Nat) : Int)))
              · rfl
              · rw [Bool.and_eq_true, decide_eq_true_eq, decide_eq_true_eq] at h
                exact absurd h hc
            rw [this]
        · rw [if_neg h10, if_neg h10]
          show (backsOf _ k ++ []).find? (hasI at_) = none
          have e0 : backsOf ⟨op, x, y, n, [((k + 1 : Nat) : Int)]⟩ k = [] := by
            unfold backsOf
            rw [List.filter_cons_of_neg (by simp; omega)]
            rfl
          rw [e0]
          rfl
    rw [Sts.pts_cons, backs_append, List.find?_append, hone, stPts_len _ _ _ _ _ _ _ _ _ (t.pts_len _) (e.pts_len _), ihr]
    rfl

theorem backs_prog (at_ : Int) (s : Sts) : (backs (progPts s) 0).find? (hasI at_) = inner at_ s 0 := by
  unfold progPts
  rw [backs_append, List.find?_append, backs_inner]
  show Option.or _ ((backsOf ⟨11, 0, 0, 0, []⟩ _ ++ []).find? (hasI at_)) = _
  have : backsOf ⟨11, 0, 0, 0, []⟩ (0 + (s.pts 0).length) = [] := rfl
  rw [this]
  show Option.or _ none = _
  cases inner at_ s 0 <;> rfl

theorem foldM_prog (at_ : Int) (s : Sts) : foldM at_ (progPts s) 0 none = inner at_ s 0 := by
  unfold progPts
  rw [foldM_snoc, foldM_inner]
  have : ∀ b i, stepM at_ i ⟨11, 0, 0, 0, []⟩ b = b := fun b i => if_neg (fun h => absurd h.1 (by simp))
  rw [this]
  cases inner at_ s 0 <;> rfl

/-- The numbers from one to another. -/
def rangeI (i j : Int) : List Int := (List.range (j + 1 - i).toNat).map fun (k : Nat) => i + (k : Int)

def rangeO : Option (Int × Int) → List Int
  | none => []
  | some z => rangeI z.1 z.2

/-- What LoopOf answers. -/
def loopI (ok : Bool) (s : Sts) (at_ : Int) : List Int := if ok then rangeO (inner at_ s 0) else []

theorem rangeI_len (i j : Int) : (rangeI i j).length = (j + 1 - i).toNat := by simp [rangeI]

theorem rangeI_get {i j : Int} {k : Nat} (h : k < (j + 1 - i).toNat) : (rangeI i j)[k]? = some (i + (k : Int)) := by
  simp [rangeI, h]

theorem mem_rangeI {i j v : Int} : v ∈ rangeI i j ↔ i ≤ v ∧ v ≤ j := by
  simp only [rangeI, List.mem_map, List.mem_range]
  constructor
  · rintro ⟨k, hk, rfl⟩
    omega
  · rintro ⟨h1, h2⟩
    exact ⟨(v - i).toNat, by omega, by omega⟩

theorem inner_out {s : Sts} {at_ : Int} (h : at_ < 0 ∨ ((progPts s).length : Int) ≤ at_) : inner at_ s 0 = none := by
  cases hi : inner at_ s 0 with
  | none => rfl
  | some z =>
    have := inner_range at_ s 0 z hi
    rw [progPts_len] at h
    omega

end Go.Proofs.Ytfkhgdbnjcdlmaa
