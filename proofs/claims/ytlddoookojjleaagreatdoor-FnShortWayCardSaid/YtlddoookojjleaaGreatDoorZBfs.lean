/-
  A search in the order of breadth: plain. What it finds, by which point, and the ways that lead there.
-/
import Derived.Test.YtlddoookojjleaaGreatDoorZBase
namespace Go.Proofs.YtlddoookojjleaaGreatDoor
open Go.RowKit Go.Deep
set_option linter.unusedVariables false

/-- What a search has found, the newest first: each point with the one whose Next found it. -/
def nmsR (R : List (Nat × Nat)) : List Nat := R.map Prod.fst

theorem nmsR_app (E R : List (Nat × Nat)) : nmsR (E ++ R) = nmsR E ++ nmsR R := List.map_append

theorem nmsR_cons (n a : Nat) (R : List (Nat × Nat)) : nmsR ((n, a) :: R) = n :: nmsR R := rfl

/-- A point that comes next. -/
def fnd1 (a : Nat) (R : List (Nat × Nat)) (n : Nat) : List (Nat × Nat) := if n ∈ nmsR R then R else (n, a) :: R

/-- All that come next. -/
def fndL (a : Nat) : List (Nat × Nat) → List Nat → List (Nat × Nat)
  | R, [] => R
  | R, n :: l => fndL a (fnd1 a R n) l

/-- The points that wait or have been taken, in order. -/
def qR (f : Nat) (R : List (Nat × Nat)) : List Nat := f :: (nmsR R).reverse

/-- What is found when i points have been taken. -/
def bfsR (nx : Nat → List Nat) (f : Nat) : Nat → List (Nat × Nat)
  | 0 => []
  | i + 1 => match (qR f (bfsR nx f i))[i]? with
    | some a => fndL a (bfsR nx f i) (nx a)
    | none => bfsR nx f i

theorem bfsR_take {nx : Nat → List Nat} {f i a : Nat} (h : (qR f (bfsR nx f i))[i]? = some a) : bfsR nx f (i + 1) = fndL a (bfsR nx f i) (nx a) := by
  show (match (qR f (bfsR nx f i))[i]? with | some a => fndL a (bfsR nx f i) (nx a) | none => bfsR nx f i) = _
  rw [h]

theorem bfsR_none {nx : Nat → List Nat} {f i : Nat} (h : (qR f (bfsR nx f i))[i]? = none) : bfsR nx f (i + 1) = bfsR nx f i := by
  show (match (qR f (bfsR nx f i))[i]? with | some a => fndL a (bfsR nx f i) (nx a) | none => bfsR nx f i) = _
  rw [h]

theorem qR_length (f : Nat) (R : List (Nat × Nat)) : (qR f R).length = R.length + 1 := by simp [qR, nmsR]

/-- Behind the last point nothing is found. -/
theorem bfsR_stop {nx : Nat → List Nat} {f i : Nat} (h : (bfsR nx f i).length + 1 ≤ i) : ∀ j, i ≤ j → bfsR nx f j = bfsR nx f i := by
  intro j hj
  induction j with
  | zero => have : i = 0 := by omega
            rw [this]
  | succ j ih =>
    by_cases e : i = j + 1
    · rw [e]
    · have h2 := ih (by omega)
      rw [bfsR_none (List.getElem?_eq_none (by rw [qR_length, h2]; omega)), h2]

theorem fnd1_suf (a : Nat) (R : List (Nat × Nat)) (n : Nat) : ∃ E, fnd1 a R n = E ++ R := by
  unfold fnd1
  split
  · exact ⟨[], rfl⟩
  · exact ⟨[(n, a)], rfl⟩

theorem fndL_suf (a : Nat) : ∀ (l : List Nat) (R : List (Nat × Nat)), ∃ E, fndL a R l = E ++ R
  | [], R => ⟨[], rfl⟩
  | n :: l, R => by
    obtain ⟨E, h⟩ := fndL_suf a l (fnd1 a R n)
    obtain ⟨E', h'⟩ := fnd1_suf a R n
    exact ⟨E ++ E', by rw [fndL, h, h', List.append_assoc]⟩

theorem fndL_app (a : Nat) : ∀ (l m : List Nat) (R : List (Nat × Nat)), fndL a R (l ++ m) = fndL a (fndL a R l) m
  | [], m, R => rfl
  | n :: l, m, R => by rw [List.cons_append, fndL, fndL_app a l m]; rfl

theorem bfsR_suf1 (nx : Nat → List Nat) (f i : Nat) : ∃ E, bfsR nx f (i + 1) = E ++ bfsR nx f i := by
  cases h : (qR f (bfsR nx f i))[i]? with
  | none => exact ⟨[], by rw [bfsR_none h]; rfl⟩
  | some a =>
    rw [bfsR_take h]
    exact fndL_suf a _ _

theorem bfsR_suf (nx : Nat → List Nat) (f i : Nat) : ∀ d, ∃ E, bfsR nx f (i + d) = E ++ bfsR nx f i
  | 0 => ⟨[], rfl⟩
  | d + 1 => by
    obtain ⟨E, h⟩ := bfsR_suf nx f i d
    obtain ⟨E', h'⟩ := bfsR_suf1 nx f (i + d)
    exact ⟨E' ++ E, by rw [show i + (d + 1) = i + d + 1 from rfl, h', h, List.append_assoc]⟩

/-- What has been found is right: each point once, behind the one that found it; that is the first point as long as it was not found, or one that was found. -/
def OkR (nx : Nat → List Nat) (f : Nat) : List (Nat × Nat) → Prop
  | [] => True
  | (n, a) :: R => n ∉ nmsR R ∧ n ∈ nx a ∧ ((a = f ∧ f ∉ nmsR R) ∨ (a ≠ f ∧ a ∈ nmsR R)) ∧ OkR nx f R

theorem OkR.tail {nx : Nat → List Nat} {f : Nat} : ∀ (E R : List (Nat × Nat)), OkR nx f (E ++ R) → OkR nx f R
  | [], R, h => h
  | (n, a) :: E, R, h => OkR.tail E R h.2.2.2

theorem mem_fnd1 {a n x : Nat} {R : List (Nat × Nat)} : x ∈ nmsR (fnd1 a R n) ↔ x = n ∨ x ∈ nmsR R := by
  unfold fnd1
  split
  · rename_i h
    exact ⟨.inr, fun e => e.elim (fun e => e ▸ h) id⟩
  · simp [nmsR]

theorem mem_fndL {a x : Nat} : ∀ (l : List Nat) (R : List (Nat × Nat)), x ∈ nmsR (fndL a R l) ↔ x ∈ l ∨ x ∈ nmsR R
  | [], R => by simp [fndL]
  | n :: l, R => by
    rw [fndL, mem_fndL l, mem_fnd1, List.mem_cons]
    constructor
    · rintro (h | h | h)
      · exact .inl (.inr h)
      · exact .inl (.inl h)
      · exact .inr h
    · rintro ((h | h) | h)
      · exact .inr (.inl h)
      · exact .inl h
      · exact .inr (.inr h)

theorem fndL_same {a : Nat} : ∀ (l : List Nat) (R : List (Nat × Nat)), (∀ x ∈ l, x ∈ nmsR R) → fndL a R l = R
  | [], R, _ => rfl
  | n :: l, R, h => by
    have : fnd1 a R n = R := by
      unfold fnd1
      rw [if_pos (h n (by simp))]
    rw [fndL, this]
    exact fndL_same l R (fun x hx => h x (by simp [hx]))

/-- A point that was found takes its next ones. -/
theorem OkR.found {nx : Nat → List Nat} {f a : Nat} (hne : a ≠ f) : ∀ (l : List Nat) (R : List (Nat × Nat)), (∀ x ∈ l, x ∈ nx a) → a ∈ nmsR R → OkR nx f R → OkR nx f (fndL a R l)
  | [], R, _, _, h => h
  | n :: l, R, hl, ha, h => by
    refine OkR.found hne l _ (fun x hx => hl x (by simp [hx])) (mem_fnd1.mpr (.inr ha)) ?_
    unfold fnd1
    split
    · exact h
    · rename_i hn
      exact ⟨hn, hl n (by simp), .inr ⟨hne, ha⟩, h⟩

/-- The first point takes its next ones, of which it is none. -/
theorem OkR.first {nx : Nat → List Nat} {f : Nat} : ∀ (l : List Nat) (R : List (Nat × Nat)), (∀ x ∈ l, x ∈ nx f) → f ∉ l → f ∉ nmsR R → OkR nx f R → OkR nx f (fndL f R l)
  | [], R, _, _, _, h => h
  | n :: l, R, hl, hf, ha, h => by
    have hnf : f ≠ n := fun e => hf (by simp [e])
    refine OkR.first l _ (fun x hx => hl x (by simp [hx])) (fun e => hf (by simp [e])) (fun e => ?_) ?_
    · rcases mem_fnd1.mp e with e | e
      · exact hnf e
      · exact ha e
    · unfold fnd1
      split
      · exact h
      · rename_i hn
        exact ⟨hn, hl n (by simp), .inl ⟨rfl, ha⟩, h⟩

theorem qR_zero (f : Nat) (R : List (Nat × Nat)) : (qR f R)[0]? = some f := rfl

theorem qR_succ {f i a : Nat} {R : List (Nat × Nat)} (h : (qR f R)[i + 1]? = some a) : a ∈ nmsR R := by
  have := List.mem_of_getElem? (show (nmsR R).reverse[i]? = some a from h)
  simpa using this

/-- The next points of the first one are found as soon as it has been taken. -/
theorem bfsR_next0 (nx : Nat → List Nat) (f : Nat) : ∀ i, ∀ x ∈ nx f, x ∈ nmsR (bfsR nx f (i + 1)) := by
  intro i x hx
  obtain ⟨E, h⟩ := bfsR_suf nx f 1 i
  rw [show i + 1 = 1 + i by omega, h]
  have : x ∈ nmsR (bfsR nx f 1) := by
    rw [bfsR_take (qR_zero f _)]
    exact (mem_fndL _ _).mpr (.inl hx)
  simp only [nmsR, List.map_append, List.mem_append]
  exact .inr this

theorem bfsR_ok {nx : Nat → List Nat} {f : Nat} (hs : f ∉ nx f) : ∀ i, OkR nx f (bfsR nx f i)
  | 0 => trivial
  | i + 1 => by
    have ih := bfsR_ok hs i
    cases h : (qR f (bfsR nx f i))[i]? with
    | none => rw [bfsR_none h]; exact ih
    | some a =>
      rw [bfsR_take h]
      cases i with
      | zero =>
        cases (qR_zero f _).symm.trans h
        exact OkR.first _ _ (fun x hx => hx) hs (by simp [bfsR, nmsR]) ih
      | succ i =>
        by_cases e : a = f
        · subst e
          rw [fndL_same _ _ (bfsR_next0 nx _ i)]
          exact ih
        · exact OkR.found e _ _ (fun x hx => hx) (qR_succ h) ih

/-- While a point takes its next ones. -/
theorem bfsR_part {nx : Nat → List Nat} {f i a : Nat} (hs : f ∉ nx f) (h : (qR f (bfsR nx f i))[i]? = some a) {l m : List Nat} (hl : nx a = l ++ m) : OkR nx f (fndL a (bfsR nx f i) l) := by
  have h1 := bfsR_ok (nx := nx) hs (i + 1)
  rw [bfsR_take h, hl, fndL_app] at h1
  obtain ⟨E, h2⟩ := fndL_suf a m (fndL a (bfsR nx f i) l)
  rw [h2] at h1
  exact OkR.tail _ _ h1

theorem OkR.nodup {nx : Nat → List Nat} {f : Nat} : ∀ {R : List (Nat × Nat)}, OkR nx f R → (nmsR R).Nodup
  | [], _ => List.nodup_nil
  | (n, a) :: R, h => List.nodup_cons.mpr ⟨h.1, h.2.2.2.nodup⟩

theorem OkR.reach {nx : Nat → List Nat} {f : Nat} : ∀ {R : List (Nat × Nat)}, OkR nx f R → ∀ x ∈ nmsR R, Reach nx f x
  | [], _, x, hx => by simp [nmsR] at hx
  | (n, a) :: R, h, x, hx => by
    rw [nmsR_cons, List.mem_cons] at hx
    rcases hx with rfl | hx
    · rcases h.2.2.1 with ⟨rfl, _⟩ | ⟨_, ha⟩
      · exact .one h.2.1
      · exact .step (h.2.2.2.reach a ha) h.2.1
    · exact h.2.2.2.reach x hx

/-- The one that found a point. -/
def parR : List (Nat × Nat) → Nat → Nat
  | [], _ => 0
  | (n, a) :: R, x => if n = x then a else parR R x

/-- How many steps lead to a point. -/
def dstR : List (Nat × Nat) → Nat → Nat
  | [], _ => 0
  | (n, a) :: R, x => if n = x then dstR R a + 1 else dstR R x

/-- The way to a point. -/
def wayR (f : Nat) : List (Nat × Nat) → Nat → List Nat
  | [], x => [x]
  | (n, a) :: R, x => if n = x then (if a = f then [f] else wayR f R a) ++ [x] else wayR f R x

/-- The way to the one that found a point. -/
def toR (f : Nat) (R : List (Nat × Nat)) (a : Nat) : List Nat := if a = f then [f] else wayR f R a

theorem parR_mem {nx : Nat → List Nat} {f : Nat} : ∀ {R : List (Nat × Nat)}, OkR nx f R → ∀ {x : Nat}, x ∈ nmsR R → x ∈ nx (parR R x) ∧ (parR R x ≠ f → parR R x ∈ nmsR R)
  | [], _, x, hx => by simp [nmsR] at hx
  | (n, a) :: R, h, x, hx => by
    unfold parR
    by_cases e : n = x
    · rw [if_pos e]
      subst e
      refine ⟨h.2.1, fun hne => ?_⟩
      rcases h.2.2.1 with ⟨e, _⟩ | ⟨_, ha⟩
      · exact absurd e hne
      · rw [nmsR_cons]; exact List.mem_cons_of_mem _ ha
    · rw [if_neg e]
      have hx2 : x ∈ nmsR R := by
        rw [nmsR_cons, List.mem_cons] at hx
        exact hx.resolve_left (fun h => e h.symm)
      obtain ⟨h1, h2⟩ := parR_mem h.2.2.2 hx2
      exact ⟨h1, fun hne => by rw [nmsR_cons]; exact List.mem_cons_of_mem _ (h2 hne)⟩

theorem wayR_cons_ne {f n a x : Nat} {R : List (Nat × Nat)} (h : n ≠ x) : wayR f ((n, a) :: R) x = wayR f R x := by
  show (if n = x then _ else _) = _
  rw [if_neg h]

theorem wayR_step {nx : Nat → List Nat} {f : Nat} : ∀ {R : List (Nat × Nat)}, OkR nx f R → ∀ {x : Nat}, x ∈ nmsR R → wayR f R x = toR f R (parR R x) ++ [x]
  | [], _, x, hx => by simp [nmsR] at hx
  | (n, a) :: R, h, x, hx => by
    by_cases e : n = x
    · subst e
      have hp : parR ((n, a) :: R) n = a := by simp [parR]
      have hw : wayR f ((n, a) :: R) n = (if a = f then [f] else wayR f R a) ++ [n] := by
        show (if n = n then _ else _) = _
        rw [if_pos rfl]
      rw [hp, hw]
      unfold toR
      by_cases e2 : a = f
      · rw [if_pos e2, if_pos e2]
      · rw [if_neg e2, if_neg e2]
        have ha : a ∈ nmsR R := (h.2.2.1.resolve_left (fun h => e2 h.1)).2
        rw [wayR_cons_ne (fun e3 => h.1 (by rw [e3]; exact ha))]
    · have hx2 : x ∈ nmsR R := by
        rw [nmsR_cons, List.mem_cons] at hx
        exact hx.resolve_left (fun h => e h.symm)
      have hp : parR ((n, a) :: R) x = parR R x := by simp [parR, e]
      rw [wayR_cons_ne e, hp, wayR_step h.2.2.2 hx2]
      unfold toR
      by_cases e2 : parR R x = f
      · rw [if_pos e2, if_pos e2]
      · rw [if_neg e2, if_neg e2]
        have ha := (parR_mem h.2.2.2 hx2).2 e2
        rw [wayR_cons_ne (fun e3 => h.1 (by rw [e3]; exact ha))]

theorem wayR_suf {nx : Nat → List Nat} {f : Nat} : ∀ (E : List (Nat × Nat)) {R : List (Nat × Nat)}, OkR nx f (E ++ R) → ∀ {x : Nat}, x ∈ nmsR R → wayR f (E ++ R) x = wayR f R x
  | [], R, _, x, _ => rfl
  | (n, a) :: E, R, h, x, hx => by
    have h1 : n ∉ nmsR (E ++ R) := h.1
    rw [nmsR_app, List.mem_append] at h1
    have hn : n ≠ x := fun e => h1 (.inr (e ▸ hx))
    rw [List.cons_append, wayR_cons_ne hn]
    exact wayR_suf E h.2.2.2 hx

theorem dstR_none : ∀ {R : List (Nat × Nat)} {x : Nat}, x ∉ nmsR R → dstR R x = 0
  | [], _, _ => rfl
  | (n, a) :: R, x, h => by
    rw [nmsR_cons, List.mem_cons] at h
    have e : n ≠ x := fun e => h (.inl e.symm)
    simp only [dstR, if_neg e]
    exact dstR_none (fun h2 => h (.inr h2))

theorem wayR_length {nx : Nat → List Nat} {f : Nat} : ∀ {R : List (Nat × Nat)}, OkR nx f R → ∀ {x : Nat}, x ∈ nmsR R → (wayR f R x).length = dstR R x + 1
  | [], _, x, hx => by simp [nmsR] at hx
  | (n, a) :: R, h, x, hx => by
    by_cases e : n = x
    · subst e
      have hw : wayR f ((n, a) :: R) n = (if a = f then [f] else wayR f R a) ++ [n] := by
        show (if n = n then _ else _) = _
        rw [if_pos rfl]
      have hd : dstR ((n, a) :: R) n = dstR R a + 1 := by simp [dstR]
      rw [hw, hd, List.length_append]
      rcases h.2.2.1 with ⟨e2, hf⟩ | ⟨e2, ha⟩
      · rw [if_pos e2, dstR_none (e2 ▸ hf)]
        rfl
      · rw [if_neg e2, wayR_length h.2.2.2 ha]
        rfl
    · have hx2 : x ∈ nmsR R := by
        rw [nmsR_cons, List.mem_cons] at hx
        exact hx.resolve_left (fun h => e h.symm)
      have hd : dstR ((n, a) :: R) x = dstR R x := by simp [dstR, e]
      rw [wayR_cons_ne e, hd]
      exact wayR_length h.2.2.2 hx2

theorem dstR_le : ∀ (R : List (Nat × Nat)) (x : Nat), dstR R x ≤ R.length
  | [], _ => Nat.le_refl _
  | (n, a) :: R, x => by
    unfold dstR
    split
    · have := dstR_le R a
      simp only [List.length_cons]; omega
    · have := dstR_le R x
      simp only [List.length_cons]; omega

theorem wayR_head {nx : Nat → List Nat} {f : Nat} : ∀ {R : List (Nat × Nat)}, OkR nx f R → ∀ {x : Nat}, x ∈ nmsR R → (wayR f R x)[0]? = some f
  | [], _, x, hx => by simp [nmsR] at hx
  | (n, a) :: R, h, x, hx => by
    by_cases e : n = x
    · subst e
      have hw : wayR f ((n, a) :: R) n = (if a = f then [f] else wayR f R a) ++ [n] := by
        show (if n = n then _ else _) = _
        rw [if_pos rfl]
      rw [hw]
      rcases h.2.2.1 with ⟨e2, hf⟩ | ⟨e2, ha⟩
      · rw [if_pos e2]; rfl
      · rw [if_neg e2, List.getElem?_append_left (by rw [wayR_length h.2.2.2 ha]; omega)]
        exact wayR_head h.2.2.2 ha
    · have hx2 : x ∈ nmsR R := by
        rw [nmsR_cons, List.mem_cons] at hx
        exact hx.resolve_left (fun h => e h.symm)
      rw [wayR_cons_ne e]
      exact wayR_head h.2.2.2 hx2

/-- The points up to a place on a way are the way to that place. -/
theorem wayR_pre {nx : Nat → List Nat} {f : Nat} : ∀ {R : List (Nat × Nat)}, OkR nx f R → ∀ {x : Nat}, x ∈ nmsR R → ∀ i y, 0 < i → i < dstR R x → (wayR f R x)[i]? = some y → y ∈ nmsR R ∧ dstR R y = i
  | [], _, x, hx, _, _, _, _, _ => by simp [nmsR] at hx
  | (n, a) :: R, h, x, hx, i, y, h0, hi, hy => by
    have key : y ∈ nmsR R ∧ dstR R y = i → y ∈ nmsR ((n, a) :: R) ∧ dstR ((n, a) :: R) y = i := by
      rintro ⟨h1, h2⟩
      refine ⟨by rw [nmsR_cons]; exact List.mem_cons_of_mem _ h1, ?_⟩
      have e : n ≠ y := fun e => h.1 (e ▸ h1)
      rw [show dstR ((n, a) :: R) y = dstR R y by simp [dstR, e]]
      exact h2
    by_cases e : n = x
    · subst e
      have hw : wayR f ((n, a) :: R) n = (if a = f then [f] else wayR f R a) ++ [n] := by
        show (if n = n then _ else _) = _
        rw [if_pos rfl]
      have hd : dstR ((n, a) :: R) n = dstR R a + 1 := by simp [dstR]
      rw [hw] at hy
      rw [hd] at hi
      rcases h.2.2.1 with ⟨e2, hf⟩ | ⟨e2, ha⟩
      · rw [dstR_none (e2 ▸ hf)] at hi
        omega
      · rw [if_neg e2, List.getElem?_append_left (by rw [wayR_length h.2.2.2 ha]; omega)] at hy
        refine key ?_
        by_cases e3 : i = dstR R a
        · subst e3
          have : (wayR f R a)[dstR R a]? = some a := by
            rw [wayR_step h.2.2.2 ha]
            have hl := wayR_length h.2.2.2 ha
            rw [wayR_step h.2.2.2 ha, List.length_append] at hl
            simp only [List.length_cons, List.length_nil] at hl
            rw [List.getElem?_append_right (by omega), show dstR R a - (toR f R (parR R a)).length = 0 by omega]
            rfl
          rw [this] at hy
          cases hy
          exact ⟨ha, rfl⟩
        · exact wayR_pre h.2.2.2 ha i y h0 (by omega) hy
    · have hx2 : x ∈ nmsR R := by
        rw [nmsR_cons, List.mem_cons] at hx
        exact hx.resolve_left (fun h => e h.symm)
      have hd : dstR ((n, a) :: R) x = dstR R x := by simp [dstR, e]
      rw [wayR_cons_ne e] at hy
      rw [hd] at hi
      exact key (wayR_pre h.2.2.2 hx2 i y h0 hi hy)

/-- Each step of a way leads to a next point. -/
theorem wayR_chain {nx : Nat → List Nat} {f : Nat} : ∀ {R : List (Nat × Nat)}, OkR nx f R → ∀ {x : Nat}, x ∈ nmsR R → ∀ i y z, (wayR f R x)[i]? = some y → (wayR f R x)[i + 1]? = some z → z ∈ nx y
  | [], _, x, hx, _, _, _, _, _ => by simp [nmsR] at hx
  | (n, a) :: R, h, x, hx, i, y, z, hy, hz => by
    by_cases e : n = x
    · subst e
      have hw : wayR f ((n, a) :: R) n = (if a = f then [f] else wayR f R a) ++ [n] := by
        show (if n = n then _ else _) = _
        rw [if_pos rfl]
      rw [hw] at hy hz
      rcases h.2.2.1 with ⟨e2, hf⟩ | ⟨e2, ha⟩
      · rw [if_pos e2] at hy hz
        cases i with
        | zero =>
          cases hy
          cases hz
          exact e2 ▸ h.2.1
        | succ i => simp at hz
      · rw [if_neg e2] at hy hz
        have hl := wayR_length h.2.2.2 ha
        by_cases e3 : i + 1 < (wayR f R a).length
        · rw [List.getElem?_append_left (by omega)] at hy hz
          exact wayR_chain h.2.2.2 ha i y z hy hz
        · have hi : i + 1 = (wayR f R a).length := by
            have := (List.getElem?_eq_some_iff.mp hz).1
            rw [List.length_append] at this
            simp only [List.length_cons, List.length_nil] at this
            omega
          rw [List.getElem?_append_right (by omega), hi, Nat.sub_self] at hz
          rw [List.getElem?_append_left (by omega)] at hy
          cases hz
          have h3 := wayR_step h.2.2.2 ha
          have hl2 : (toR f R (parR R a)).length + 1 = (wayR f R a).length := by rw [h3, List.length_append]; rfl
          rw [h3, List.getElem?_append_right (by omega), show i - (toR f R (parR R a)).length = 0 by omega] at hy
          cases hy
          exact h.2.1
    · have hx2 : x ∈ nmsR R := by
        rw [nmsR_cons, List.mem_cons] at hx
        exact hx.resolve_left (fun h => e h.symm)
      rw [wayR_cons_ne e] at hy hz
      exact wayR_chain h.2.2.2 hx2 i y z hy hz

theorem wayR_last {nx : Nat → List Nat} {f : Nat} {R : List (Nat × Nat)} (h : OkR nx f R) {x : Nat} (hx : x ∈ nmsR R) : (wayR f R x)[dstR R x]? = some x := by
  have hl := wayR_length h hx
  rw [wayR_step h hx, List.length_append] at hl
  simp only [List.length_cons, List.length_nil] at hl
  rw [wayR_step h hx, List.getElem?_append_right (by omega), show dstR R x - (toR f R (parR R x)).length = 0 by omega]
  rfl

theorem dstR_pos {nx : Nat → List Nat} {f : Nat} : ∀ {R : List (Nat × Nat)}, OkR nx f R → ∀ {x : Nat}, x ∈ nmsR R → 0 < dstR R x
  | [], _, x, hx => by simp [nmsR] at hx
  | (n, a) :: R, h, x, hx => by
    unfold dstR
    split
    · omega
    · rename_i e
      rw [nmsR_cons, List.mem_cons] at hx
      exact dstR_pos h.2.2.2 (hx.resolve_left (fun h => e h.symm))

/-- What a search finds in the end: all that can be reached. -/
theorem bfsR_all {nx : Nat → List Nat} {f i : Nat} (hs : f ∉ nx f) (h : (bfsR nx f i).length + 1 ≤ i) (x : Nat) : x ∈ nmsR (bfsR nx f i) ↔ Reach nx f x := by
  refine ⟨(bfsR_ok hs i).reach x, fun hr => ?_⟩
  have hcl : ∀ j a, j < i → (qR f (bfsR nx f i))[j]? = some a → ∀ y ∈ nx a, y ∈ nmsR (bfsR nx f i) := by
    intro j a hj ha y hy
    obtain ⟨E, h1⟩ := bfsR_suf nx f j (i - j)
    rw [show j + (i - j) = i by omega] at h1
    by_cases hjl : j < (bfsR nx f j).length + 1
    · have h2 : (qR f (bfsR nx f j))[j]? = some a := by
        rw [h1] at ha
        rw [← ha]
        have : qR f (E ++ bfsR nx f j) = qR f (bfsR nx f j) ++ (nmsR E).reverse := by simp [qR, nmsR]
        rw [this, List.getElem?_append_left (by rw [qR_length]; omega)]
      obtain ⟨E', h3⟩ := bfsR_suf nx f (j + 1) (i - (j + 1))
      rw [show j + 1 + (i - (j + 1)) = i by omega, bfsR_take h2] at h3
      rw [h3]
      simp only [nmsR, List.map_append, List.mem_append]
      exact .inr ((mem_fndL _ _).mpr (.inl hy))
    · have h4 := bfsR_stop (nx := nx) (f := f) (i := j) (by omega) i (by omega)
      rw [h4] at ha
      have := (List.getElem?_eq_some_iff.mp ha).1
      rw [qR_length] at this
      omega
  refine hr.least (F := fun x => x ∈ nmsR (bfsR nx f i)) (fun y hy => ?_) (fun z hz y hy => ?_)
  · exact hcl 0 f (by omega) (qR_zero f _) y hy
  · have hz2 : z ∈ (nmsR (bfsR nx f i)).reverse := by simpa using hz
    obtain ⟨k, hk⟩ := List.getElem?_of_mem hz2
    have hkl := (List.getElem?_eq_some_iff.mp hk).1
    have : (nmsR (bfsR nx f i)).reverse.length = (bfsR nx f i).length := by simp [nmsR]
    exact hcl (k + 1) z (by omega) hk y hy

/-- Different numbers below a bound are at most that many. -/
theorem nodup_below : ∀ (n : Nat) (l : List Nat), l.Nodup → (∀ x ∈ l, x < n) → l.length ≤ n
  | 0, l, _, h => by
    cases l with
    | nil => exact Nat.le_refl _
    | cons x l => exact absurd (h x (by simp)) (by omega)
  | n + 1, l, hd, h => by
    by_cases hn : n ∈ l
    · have h1 := nodup_below n (l.erase n) (hd.erase n) (fun x hx => by
        have h2 := h x (List.mem_of_mem_erase hx)
        have h3 : x ≠ n := fun e => by
          subst e
          exact (List.Nodup.not_mem_erase hd) hx
        omega)
      rw [List.length_erase_of_mem hn] at h1
      omega
    · have := nodup_below n l hd (fun x hx => by
        have h2 := h x hx
        have h3 : x ≠ n := fun e => hn (e ▸ hx)
        omega)
      omega

theorem OkR.length {nx : Nat → List Nat} {f n : Nat} (hn : ∀ a, ∀ x ∈ nx a, x < n) {R : List (Nat × Nat)} (h : OkR nx f R) : R.length ≤ n := by
  have h1 := h.nodup
  have h2 : ∀ x ∈ nmsR R, x < n := by
    intro x hx
    have := (parR_mem h hx).1
    exact hn _ x this
  have h3 : (nmsR R).length ≤ n := by
    exact nodup_below n _ h1 h2
  simpa [nmsR] using h3

/-- All that is found. -/
noncomputable def bfsE (nx : Nat → List Nat) (f : Nat) : List (Nat × Nat) := Classical.choose (⟨_, rfl⟩ : ∃ R, R = bfsR nx f 62)

theorem bfsE_is (nx : Nat → List Nat) (f : Nat) : ∃ m, m = 62 ∧ bfsE nx f = bfsR nx f m := ⟨62, rfl, Classical.choose_spec (⟨_, rfl⟩ : ∃ R, R = bfsR nx f 62)⟩

theorem bfsE_ok {nx : Nat → List Nat} {f : Nat} (hs : f ∉ nx f) : OkR nx f (bfsE nx f) := by
  obtain ⟨m, hm, h⟩ := bfsE_is nx f
  rw [h]
  exact bfsR_ok hs m

theorem bfsE_len {nx : Nat → List Nat} {f n : Nat} (hs : f ∉ nx f) (hn : ∀ a, ∀ x ∈ nx a, x < n) : (bfsE nx f).length ≤ n := (bfsE_ok hs).length hn

theorem mem_bfsE {nx : Nat → List Nat} {f n : Nat} (hs : f ∉ nx f) (hn : ∀ a, ∀ x ∈ nx a, x < n) (hle : n ≤ 61) (x : Nat) : x ∈ nmsR (bfsE nx f) ↔ Reach nx f x := by
  have hl := bfsE_len hs hn
  obtain ⟨m, hm, h⟩ := bfsE_is nx f
  rw [h] at hl ⊢
  exact bfsR_all hs (by omega) x

/-- A search that has no point left has found all. -/
theorem bfsE_of {nx : Nat → List Nat} {f i n : Nat} (hs : f ∉ nx f) (hn : ∀ a, ∀ x ∈ nx a, x < n) (hle : n ≤ 61) (h : (bfsR nx f i).length + 1 ≤ i) : bfsR nx f i = bfsE nx f := by
  have hl := bfsE_len hs hn
  obtain ⟨m, hm, h2⟩ := bfsE_is nx f
  rw [h2] at hl ⊢
  rcases Nat.le_total i m with h1 | h1
  · exact (bfsR_stop h m h1).symm
  · exact bfsR_stop (by omega) i h1

/-- What is found at any time is found first. -/
theorem bfsE_suf {nx : Nat → List Nat} {f i n : Nat} (hs : f ∉ nx f) (hn : ∀ a, ∀ x ∈ nx a, x < n) (hle : n ≤ 61) : ∃ E, bfsE nx f = E ++ bfsR nx f i := by
  have hl := bfsE_len hs hn
  obtain ⟨m, hm, h2⟩ := bfsE_is nx f
  rw [h2] at hl ⊢
  rcases Nat.le_total i m with h1 | h1
  · obtain ⟨E, h⟩ := bfsR_suf nx f i (m - i)
    rw [show i + (m - i) = m by omega] at h
    exact ⟨E, h⟩
  · exact ⟨[], (bfsR_stop (by omega) i h1).symm⟩

theorem bfsE_part {nx : Nat → List Nat} {f i a n : Nat} (hs : f ∉ nx f) (hn : ∀ a, ∀ x ∈ nx a, x < n) (hle : n ≤ 61) (h : (qR f (bfsR nx f i))[i]? = some a) {l m : List Nat} (hl : nx a = l ++ m) : ∃ E, bfsE nx f = E ++ fndL a (bfsR nx f i) l := by
  obtain ⟨E, h1⟩ := bfsE_suf (nx := nx) (f := f) (i := i + 1) hs hn hle
  rw [bfsR_take h, hl, fndL_app] at h1
  obtain ⟨E', h2⟩ := fndL_suf a m (fndL a (bfsR nx f i) l)
  exact ⟨E ++ E', by rw [h1, h2, List.append_assoc]⟩

/-- The way that is answered. -/
noncomputable def wayE (nx : Nat → List Nat) (f x : Nat) : List Nat := wayR f (bfsE nx f) x

end Go.Proofs.YtlddoookojjleaaGreatDoor
