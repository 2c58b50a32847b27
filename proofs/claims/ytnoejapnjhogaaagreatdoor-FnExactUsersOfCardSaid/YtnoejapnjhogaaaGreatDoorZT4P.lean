/-
  What comes to a point, found by passes over all points: plain.
-/
import Derived.Test.YtnoejapnjhogaaaGreatDoorZTfl
namespace Go.Proofs.YtnoejapnjhogaaaGreatDoor.tr
set_option linter.unusedVariables false

/-- All that one table has is in another one. -/
def within (T z : Nat) (x y : Nat → Nat → Bool) : Prop := ∀ v l, v < T → l < z → x v l = true → y v l = true

/-- In the middle of a pass: all that is there comes; if nothing changed so far, the steps of D are closed. -/
structure P4 (e : Nat → Nat → Prop) (G : Nat → Nat → Nat → Prop) (H : Nat → Nat → Nat → Nat → Prop) (n T z : Nat) (o : Nat → Nat → Nat → Bool) (c : Bool) (D : Nat → Nat → Prop) : Prop where
  dom : ∀ m v l, o m v l = true → v < T ∧ l < z
  sound : ∀ m v l, m < n → o m v l = true → LFlo e G H m v l
  done : c = false → ∀ i m, D i m → e i m → ∀ v l, v < T → l < z → Beh G H i (flP (o i)) v l → o m v l = true

section
variable {e : Nat → Nat → Prop} {G : Nat → Nat → Nat → Prop} {H : Nat → Nat → Nat → Nat → Prop} {n T z : Nat} {o : Nat → Nat → Nat → Bool} {c : Bool} {D D' : Nat → Nat → Prop}

theorem P4.last (h : P4 e G H n T z o false D) (hT : T ≤ 6) (hD : ∀ i m, e i m → D i m) (hP : ∀ m v l, LFlo e G H m v l → v < T ∧ l < z) {m v l : Nat} (hm : m < n) : o m v l = true ↔ LFlo e G H m v l := by
  refine ⟨h.sound m v l hm, fun hf => ?_⟩
  clear hm
  have hp := hP _ _ _ hf
  induction hf with
  | gen h1 h2 => exact h.done rfl _ _ (hD _ _ h1) h1 _ _ hp.1 hp.2 (.inl h2)
  | step h1 h2 h3 ih => exact h.done rfl _ _ (hD _ _ h1) h1 _ _ hp.1 hp.2 (.inr ⟨_, Nat.lt_of_lt_of_le (hP _ _ _ h2).1 hT, ih (hP _ _ _ h2), h3⟩)

theorem P4.congr (h : P4 e G H n T z o c D) (hD : ∀ i m, e i m → D' i m → D i m) : P4 e G H n T z o c D' :=
  ⟨h.dom, h.sound, fun hc i m hd he => h.done hc i m (hD i m he hd) he⟩

/-- What comes behind point a is known at b already. -/
theorem P4.same {a b : Nat} {x : Nat → Nat → Bool} (h : P4 e G H n T z o c D)
    (hx : c = false → ∀ v l, v < T → l < z → Beh G H a (flP (o a)) v l → x v l = true) (hs : within T z x (o b)) (hD : ∀ i m, D' i m → D i m ∨ (i = a ∧ m = b)) : P4 e G H n T z o c D' :=
  ⟨h.dom, h.sound, fun hc i m hd he v l hv hl hb => by
    rcases hD i m hd with h1 | ⟨rfl, rfl⟩
    · exact h.done hc i m h1 he v l hv hl hb
    · exact hs v l hv hl (hx hc v l hv hl hb)⟩

/-- What comes to b. -/
def addK (o : Nat → Nat → Nat → Bool) (b : Nat) (x : Nat → Nat → Bool) : Nat → Nat → Nat → Bool := fun m v l => o m v l || (decide (m = b) && x v l)

/-- Something new comes to b. -/
theorem P4.more {b : Nat} {x : Nat → Nat → Bool} (h : P4 e G H n T z o c D)
    (hx : ∀ v l, x v l = true → v < T ∧ l < z) (hs : ∀ v l, x v l = true → LFlo e G H b v l) : P4 e G H n T z (addK o b x) true D' := by
  refine ⟨fun m v l hm => ?_, fun m v l hmn hm => ?_, fun hc => by cases hc⟩
  · unfold addK at hm
    rw [Bool.or_eq_true, Bool.and_eq_true] at hm
    rcases hm with hm | ⟨_, hm⟩
    · exact h.dom m v l hm
    · exact hx v l hm
  · unfold addK at hm
    rw [Bool.or_eq_true, Bool.and_eq_true] at hm
    rcases hm with hm | ⟨h1, hm⟩
    · exact h.sound m v l hmn hm
    · rw [decide_eq_true_eq] at h1
      subst h1
      exact hs v l hm
end

theorem addK_at (o : Nat → Nat → Nat → Bool) (b : Nat) (x : Nat → Nat → Bool) (v l : Nat) : addK o b x b v l = (o b v l || x v l) := by
  unfold addK
  rw [decide_eq_true rfl, Bool.true_and]

theorem addK_ne {o : Nat → Nat → Nat → Bool} {b m : Nat} {x : Nat → Nat → Bool} {v l : Nat} (h : m ≠ b) : addK o b x m v l = o m v l := by
  unfold addK
  rw [decide_eq_false h, Bool.false_and, Bool.or_false]

/-- How much of the tables is not there yet. -/
def missF (o : Nat → Nat → Nat → Bool) (n z : Nat) : Nat := sumTo (fun i => sumTo (fun v => sumTo (fun l => if o i v l then 0 else 1) z) 6) n

theorem missF_less {o : Nat → Nat → Nat → Bool} {b n T z v l : Nat} {x : Nat → Nat → Bool} (hb : b < n) (hT : T ≤ 6) (hv : v < T) (hl : l < z) (hx : x v l = true) (ho : o b v l = false) : missF (addK o b x) n z < missF o n z := by
  have hle : ∀ u j, (if addK o b x b u j then 0 else 1) ≤ (if o b u j then 0 else 1) := fun u j => by
    rw [addK_at]
    cases o b u j <;> cases x u j <;> simp
  refine sumTo_less hb ?_ (fun i hi => by simp only [addK_ne hi])
  refine sumTo_lt (show v < 6 from by omega) ?_ (fun u hu => sumTo_le fun j hj => hle u j)
  refine sumTo_lt hl ?_ (fun j hj => hle v j)
  show (if addK o b x b v l then 0 else 1) < (if o b v l then 0 else 1)
  rw [addK_at, ho, hx]
  decide

/-- What is behind a point has its place. -/
theorem aft_dom {q : Nat} {ts : List Int} {ns : List Nd} (hA : AllTyped ts ns) {a : Nat} {d : Nd} (hd : ns[a]? = some d) {S : Nat → Nat → Bool} (hS : ∀ v l, S v l = true → v < ts.length ∧ l < szQ q ns.length) {v l : Nat} (h : aftT q ts d a S v l = true) : v < ts.length ∧ l < szQ q ns.length := by
  unfold aftT at h
  by_cases hs : setI d = (v : Int)
  · rw [if_pos hs, Bool.or_eq_true, Bool.and_eq_true] at h
    have hv := typed_set (hA.2 a d hd) v (by omega) hs
    refine ⟨by omega, ?_⟩
    rcases h with h | ⟨_, h⟩
    · exact gQ_lt hA hd h
    · exact (hS _ l h).2
  · rw [if_neg hs] at h
    by_cases hu : useI ts d (v : Int) = 2
    · rw [if_pos hu] at h
      cases h
    · rw [if_neg hu] at h
      exact hS v l h

/-- The state in the middle of a pass, at point k behind j of its next ones; o0: the tables when the point came. -/
structure K4 (q : Nat) (ts : List Int) (ns : List Nd) (o0 o : Nat → Nat → Nat → Bool) (c : Bool) (k j M : Nat) (d : Nd) : Prop where
  p : P4 (eN ns) (genT q ns) (handT q ts ns) ns.length ts.length (szQ q ns.length) o c (fun i m => i < k ∨ (i = k ∧ ∃ y, y < j ∧ d.next[y]? = some (m : Int)))
  same : c = false → o k = o0 k
  dec : c = true → missF o ns.length (szQ q ns.length) < M
  le : missF o ns.length (szQ q ns.length) ≤ M
  old : ∀ v l, o0 k v l = true → (v < ts.length ∧ l < szQ q ns.length) ∧ TrB q ts ns k v l

/-- The state in a pass, behind k points. -/
structure J4 (q : Nat) (ts : List Int) (ns : List Nd) (o : Nat → Nat → Nat → Bool) (c : Bool) (k M : Nat) : Prop where
  p : P4 (eN ns) (genT q ns) (handT q ts ns) ns.length ts.length (szQ q ns.length) o c (fun i m => i < k)
  dec : c = true → missF o ns.length (szQ q ns.length) < M
  le : missF o ns.length (szQ q ns.length) ≤ M

/-- Between two passes. -/
def Q4 (q : Nat) (ts : List Int) (ns : List Nd) (o : Nat → Nat → Nat → Bool) (c : Bool) : Prop := P4 (eN ns) (genT q ns) (handT q ts ns) ns.length ts.length (szQ q ns.length) o c (fun _ _ => True)

theorem Q4.zero (q : Nat) (ts : List Int) (ns : List Nd) : Q4 q ts ns (fun _ _ _ => false) true := ⟨fun m v l h => (by cases h), fun m v l _ h => (by cases h), fun h => (by cases h)⟩

theorem Q4.pass {q : Nat} {ts : List Int} {ns : List Nd} {o : Nat → Nat → Nat → Bool} {c : Bool} (h : Q4 q ts ns o c) : J4 q ts ns o false 0 (missF o ns.length (szQ q ns.length)) :=
  ⟨⟨h.dom, h.sound, fun _ i m hd => absurd hd (Nat.not_lt_zero _)⟩, fun h => (by cases h), Nat.le_refl _⟩

theorem eN_lt {ns : List Nd} {a b : Nat} (h : eN ns a b) : a < ns.length := by
  rcases Nat.lt_or_ge a ns.length with h9 | h9
  · exact h9
  · exfalso
    have hab' : b ∈ nextN ns a := h
    unfold nextN nextP at hab'
    rw [List.getElem?_eq_none h9] at hab'
    simp at hab'

theorem J4.pass {q : Nat} {ts : List Int} {ns : List Nd} {o : Nat → Nat → Nat → Bool} {c : Bool} {M : Nat} (h : J4 q ts ns o c ns.length M) : Q4 q ts ns o c :=
  h.p.congr fun i m he _ => eN_lt he

theorem J4.point {q : Nat} {ts : List Int} {ns : List Nd} {o : Nat → Nat → Nat → Bool} {c : Bool} {k M : Nat} (h : J4 q ts ns o c k M) (hk : k < ns.length) (d : Nd) : K4 q ts ns o o c k 0 M d :=
  ⟨h.p.congr fun i m he hd => hd.elim id (fun q => by obtain ⟨_, y, hy, _⟩ := q; exact absurd hy (Nat.not_lt_zero _)), fun _ => rfl, h.dec, h.le, fun v l hv => ⟨h.p.dom k v l hv, h.p.sound k v l hk hv⟩⟩

theorem K4.done {z q : Nat} {ts : List Int} {ns : List Nd} {o0 o : Nat → Nat → Nat → Bool} {c : Bool} {k M : Nat} {d : Nd} (h : K4 q ts ns o0 o c k d.next.length M d) (hD : PtsOk z ns) (hle : ns.length ≤ 61) (hd : ns[k]? = some d) : J4 q ts ns o c (k + 1) M :=
  ⟨h.p.congr fun i m he hik => by
    by_cases hi : i < k
    · exact .inl hi
    · have hik' : i = k := by have : i < k + 1 := hik; omega
      subst hik'
      obtain ⟨d', y, e1, e2⟩ := (mem_nextN hD hle _ _).mp he
      rw [hd] at e1
      injection e1 with e1
      subst e1
      exact .inr ⟨rfl, y, (List.getElem?_eq_some_iff.mp e2.1).1, e2.1⟩, h.dec, h.le⟩

/-- What is behind the point. -/
theorem K4.beh {q : Nat} {ts : List Int} {ns : List Nd} {o0 o : Nat → Nat → Nat → Bool} {c : Bool} {k j M : Nat} {d : Nd} (h : K4 q ts ns o0 o c k j M d) (hA : AllTyped ts ns) (hd : ns[k]? = some d) {v l : Nat} (hv : v < 6) :
    aftT q ts d k (o0 k) v l = true ↔ Beh (genT q ns) (handT q ts ns) k (flP (o0 k)) v l := aftT_iff hA hd hv

theorem K4.keep {q : Nat} {ts : List Int} {ns : List Nd} {o0 o : Nat → Nat → Nat → Bool} {c : Bool} {k j b M : Nat} {d : Nd} (h : K4 q ts ns o0 o c k j M d) (hA : AllTyped ts ns) (hd : ns[k]? = some d) (hb : d.next[j]? = some (b : Int))
    (hw : within ts.length (szQ q ns.length) (aftT q ts d k (o0 k)) (o b)) : K4 q ts ns o0 o c k (j + 1) M d := by
  refine ⟨h.p.same (a := k) (b := b) (x := aftT q ts d k (o0 k)) (fun hc v l hv hl hB => ?_) hw (fun i m hm => ?_), h.same, h.dec, h.le, h.old⟩
  · rw [h.same hc] at hB
    exact (h.beh hA hd (Nat.lt_of_lt_of_le hv hA.1)).mpr hB
  · rcases hm with hm | ⟨hm, y, hy, hym⟩
    · exact .inl (.inl hm)
    · by_cases hyj : y = j
      · subst hyj
        rw [hb] at hym
        injection hym with hym
        exact .inr ⟨hm, by omega⟩
      · exact .inl (.inr ⟨hm, y, by omega, hym⟩)

theorem K4.dom {q : Nat} {ts : List Int} {ns : List Nd} {o0 o : Nat → Nat → Nat → Bool} {c : Bool} {k j M : Nat} {d : Nd} (h : K4 q ts ns o0 o c k j M d) (hA : AllTyped ts ns) (hd : ns[k]? = some d) (v l : Nat) (hx : aftT q ts d k (o0 k) v l = true) : v < ts.length ∧ l < szQ q ns.length :=
  aft_dom hA hd (fun v l hs => (h.old v l hs).1) hx

theorem K4.add {q : Nat} {ts : List Int} {ns : List Nd} {o0 o : Nat → Nat → Nat → Bool} {c : Bool} {k j b M : Nat} {d : Nd} (h : K4 q ts ns o0 o c k j M d) (hA : AllTyped ts ns) (hd : ns[k]? = some d) (hbn : b < ns.length) (he : eN ns k b)
    (hw : ¬ within ts.length (szQ q ns.length) (aftT q ts d k (o0 k)) (o b)) : K4 q ts ns o0 (addK o b (aftT q ts d k (o0 k))) true k (j + 1) M d := by
  have hdom := h.dom hA hd
  have hless : missF (addK o b (aftT q ts d k (o0 k))) ns.length (szQ q ns.length) < missF o ns.length (szQ q ns.length) := by
    refine Classical.byContradiction fun h9 => hw fun v l hv hl hx => ?_
    cases hob : o b v l
    · exact absurd (missF_less hbn hA.1 hv hl hx hob) h9
    · rfl
  refine ⟨h.p.more (b := b) (x := aftT q ts d k (o0 k)) hdom (fun v l hx => ?_), fun hc => (by cases hc), fun _ => Nat.lt_of_lt_of_le hless h.le, Nat.le_of_lt (Nat.lt_of_lt_of_le hless h.le), h.old⟩
  rcases (h.beh hA hd (Nat.lt_of_lt_of_le (hdom v l hx).1 hA.1)).mp hx with h1 | ⟨u, hu, h1, h2⟩
  · exact .gen he h1
  · exact .step he (h.old u l h1).2 h2

/-- Nothing new: the tables are the same. -/
theorem addK_within {o : Nat → Nat → Nat → Bool} {b T z : Nat} {x : Nat → Nat → Bool} (hx : ∀ v l, x v l = true → v < T ∧ l < z) (hw : within T z x (o b)) : addK o b x = o := by
  funext m v l
  by_cases hm : m = b
  · subst hm
    rw [addK_at]
    cases hv : x v l
    · simp
    · rw [hw v l (hx v l hv).1 (hx v l hv).2 hv]; rfl
  · exact addK_ne hm

/-- One next point more, whether something new came (r) or not. -/
theorem K4.step {q : Nat} {ts : List Int} {ns : List Nd} {o0 o : Nat → Nat → Nat → Bool} {c r : Bool} {k j b M : Nat} {d : Nd} (h : K4 q ts ns o0 o c k j M d) (hA : AllTyped ts ns) (hd : ns[k]? = some d) (hb : d.next[j]? = some (b : Int)) (hbn : b < ns.length) (he : eN ns k b)
    (hr : r = true ↔ ¬ within ts.length (szQ q ns.length) (aftT q ts d k (o0 k)) (o b)) : K4 q ts ns o0 (addK o b (aftT q ts d k (o0 k))) (r || c) k (j + 1) M d := by
  by_cases hw : within ts.length (szQ q ns.length) (aftT q ts d k (o0 k)) (o b)
  · have e : r = false := by
      cases hrr : r
      · rfl
      · exact absurd hw (hr.mp hrr)
    rw [e, Bool.false_or, addK_within (h.dom hA hd) hw]
    exact h.keep hA hd hb hw
  · rw [hr.mpr hw, Bool.true_or]
    exact h.add hA hd hbn he hw

/-- What the passes find. -/
theorem Q4.last {q : Nat} {ts : List Int} {ns : List Nd} {o : Nat → Nat → Nat → Bool} (h : Q4 q ts ns o false) (hA : AllTyped ts ns) {m v l : Nat} (hm : m < ns.length) : o m v l = true ↔ TrB q ts ns m v l :=
  P4.last h hA.1 (fun _ _ _ => trivial) (fun m v l hf => TrB.dom hA hf) hm

end Go.Proofs.YtnoejapnjhogaaaGreatDoor.tr
