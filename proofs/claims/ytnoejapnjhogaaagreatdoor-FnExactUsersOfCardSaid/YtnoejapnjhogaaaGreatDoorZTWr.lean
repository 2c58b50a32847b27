/-
  Tables that take what others have: what is written, what is new.
-/
import Derived.Test.YtnoejapnjhogaaaGreatDoorZTM
namespace Go.Proofs.YtnoejapnjhogaaaGreatDoor.tr
open Go.RowKit Go.Deep
set_option linter.unusedVariables false

/-- Only blocks of P are written. -/
structure Wr (w w' : World) (P : Nat → Prop) : Prop where
  os : w'.os = w.os
  tape : w'.tape = w.tape
  output : w'.output = w.output
  size : w.heap.size ≤ w'.heap.size
  block : ∀ k, k < w.heap.size → ¬ P k → w'.heap[k]? = w.heap[k]?

section
variable {a b c : World} {P Q : Nat → Prop}

theorem Wr.refl (w : World) (P : Nat → Prop) : Wr w w P := ⟨rfl, rfl, rfl, Nat.le_refl _, fun _ _ _ => rfl⟩

theorem Wr.set (h : Wr a b P) {F o : Nat} (hF : P F) (v : Value) : Wr a (b.setCell ⟨F, o, none⟩ v) P := by
  have hg := Lib.grownBy_setCell b F o v
  exact ⟨hg.os.trans h.os, hg.tape.trans h.tape, hg.output.trans h.output, Nat.le_trans h.size hg.size, fun k hk hp => (hg.block k (Nat.lt_of_lt_of_le hk h.size) (fun e => hp (by injection e with e; rw [e]; exact hF))).trans (h.block k hk hp)⟩

theorem Wr.below (h : Wr a b P) {B : Nat} {w0 : World} (h0 : Below B w0 a) (hB : B ≤ a.heap.size) (hP : ∀ k, P k → B ≤ k) : Below B w0 b :=
  h0.trans ⟨h.os, h.tape, h.output, h.size, fun k hk => h.block k (by omega) (fun hp => by have := hP k hp; omega)⟩
end

/-- The blocks of a table's rows. -/
def rowsOf (T : Nat) (m : M4) (k : Nat) : Prop := ∃ u, u < T ∧ k = m.bl u

theorem S4.wr {w w' : World} {B T n : Nat} {m : M4} {S : Nat → Nat → Bool} {P : Nat → Prop} (h : S4 w B T n m S) (hw : Wr w w' P) (hP : ∀ u, u < T → ¬ P (m.bl u)) (hg : 0 < T → ¬ P m.g) : S4 w' B T n m S :=
  ⟨h.fa, fun h0 => by
    obtain ⟨cur, h1, h2⟩ := h.row h0
    exact ⟨cur, (hw.block _ (heap_lt h1) (hg h0)).trans h1, h2⟩, h.cf, fun v hv => (h.fl v hv).keep (hw.block _ (h.fl v hv).lt (hP v hv)), h.cp, h.inj, h.own, h.og⟩

/-- The row of a table's rows is no row. -/
theorem S4.g_off {w : World} {B B' T n : Nat} {m m' : M4} {S S' : Nat → Nat → Bool} (h : S4 w B T n m S) (h' : S4 w B' T n m' S') (h0 : 0 < T) : ¬ rowsOf T m m'.g := by
  rintro ⟨u, hu, e⟩
  obtain ⟨cur, h1, _⟩ := h'.row h0
  exact (h.fl u hu).off h1 (by decide) e

/-- Behind v rows and i flags of the next one. -/
def pre (v i u j : Nat) : Prop := u < v ∨ (u = v ∧ j < i)

instance (v i u j : Nat) : Decidable (pre v i u j) := by unfold pre; infer_instance

/-- What is taken so far. -/
def mrg (x y : Nat → Nat → Bool) (v i u j : Nat) : Bool := y u j || (decide (pre v i u j) && x u j)

/-- Something new was taken so far. -/
def fresh (T z : Nat) (x y : Nat → Nat → Bool) (v i : Nat) : Prop := ∃ u j, pre v i u j ∧ u < T ∧ j < z ∧ x u j = true ∧ y u j = false

theorem mrg_start (x y : Nat → Nat → Bool) (u j : Nat) : mrg x y 0 0 u j = y u j := by
  unfold mrg
  rw [decide_eq_false (show ¬ pre 0 0 u j from by unfold pre; omega)]
  simp

theorem mrg_row {x y : Nat → Nat → Bool} {v z u j : Nat} (hj : j < z) : mrg x y (v + 1) 0 u j = mrg x y v z u j := by
  unfold mrg
  rw [show decide (pre (v + 1) 0 u j) = decide (pre v z u j) from decide_eq_decide.mpr (by unfold pre; omega)]

theorem mrg_last {x y : Nat → Nat → Bool} {T u j : Nat} (hu : u < T) : mrg x y T 0 u j = (y u j || x u j) := by
  unfold mrg
  rw [decide_eq_true (show pre T 0 u j from by unfold pre; omega), Bool.true_and]

theorem mrg_here (x y : Nat → Nat → Bool) (v i : Nat) : mrg x y v i v i = y v i := by
  unfold mrg
  rw [decide_eq_false (show ¬ pre v i v i from by unfold pre; omega)]
  simp

theorem mrg_next (x y : Nat → Nat → Bool) (v i u j : Nat) : mrg x y v (i + 1) u j = if u = v ∧ j = i then (y v i || x v i) else mrg x y v i u j := by
  unfold mrg
  by_cases h : u = v ∧ j = i
  · obtain ⟨rfl, rfl⟩ := h
    rw [if_pos ⟨rfl, rfl⟩, decide_eq_true (show pre u (j + 1) u j from by unfold pre; omega), Bool.true_and]
  · rw [if_neg h, show decide (pre v (i + 1) u j) = decide (pre v i u j) from decide_eq_decide.mpr (by unfold pre; omega)]

/-- Nothing is written at this flag. -/
theorem mrg_skip {x y : Nat → Nat → Bool} {v i : Nat} (h : x v i = true → y v i = true) (u j : Nat) : mrg x y v (i + 1) u j = mrg x y v i u j := by
  rw [mrg_next]
  by_cases h9 : u = v ∧ j = i
  · obtain ⟨rfl, rfl⟩ := h9
    rw [if_pos ⟨rfl, rfl⟩, mrg_here]
    cases hx : x u j
    · simp
    · rw [h hx]; rfl
  · rw [if_neg h9]

/-- The flag is written. -/
theorem mrg_put {x y : Nat → Nat → Bool} {v i : Nat} (h : x v i = true) (u j : Nat) : mrg x y v (i + 1) u j = setR (mrg x y v i) v (setR (mrg x y v i v) i true) u j := by
  rw [mrg_next]
  by_cases hu : u = v
  · subst hu
    rw [setR_at]
    by_cases hj : j = i
    · subst hj
      rw [if_pos ⟨rfl, rfl⟩, setR_at, h]
      simp
    · rw [if_neg (fun e => hj e.2), setR_ne _ _ _ hj]
  · rw [if_neg (fun e => hu e.1), setR_ne _ _ _ hu]

theorem fresh_start {T z : Nat} {x y : Nat → Nat → Bool} : ¬ fresh T z x y 0 0 := by
  rintro ⟨u, j, h, _⟩
  unfold pre at h
  omega

theorem fresh_row {T z : Nat} {x y : Nat → Nat → Bool} {v : Nat} : fresh T z x y (v + 1) 0 ↔ fresh T z x y v z := by
  unfold fresh
  constructor
  · rintro ⟨u, j, h, h1, h2, h3⟩
    exact ⟨u, j, by unfold pre at h ⊢; omega, h1, h2, h3⟩
  · rintro ⟨u, j, h, h1, h2, h3⟩
    exact ⟨u, j, by unfold pre at h ⊢; omega, h1, h2, h3⟩

theorem fresh_skip {T z : Nat} {x y : Nat → Nat → Bool} {v i : Nat} (h : x v i = true → y v i = true) : fresh T z x y v (i + 1) ↔ fresh T z x y v i := by
  constructor
  · rintro ⟨u, j, hp, h1, h2, h3, h4⟩
    refine ⟨u, j, ?_, h1, h2, h3, h4⟩
    by_cases h9 : u = v ∧ j = i
    · obtain ⟨rfl, rfl⟩ := h9
      rw [h h3] at h4
      cases h4
    · unfold pre at hp ⊢; omega
  · rintro ⟨u, j, hp, h1⟩
    exact ⟨u, j, by unfold pre at hp ⊢; omega, h1⟩

theorem fresh_put {T z : Nat} {x y : Nat → Nat → Bool} {v i : Nat} (hv : v < T) (hi : i < z) (h : x v i = true) (h' : y v i = false) : fresh T z x y v (i + 1) :=
  ⟨v, i, by unfold pre; omega, hv, hi, h, h'⟩

theorem fresh_last {T z : Nat} {x y : Nat → Nat → Bool} : fresh T z x y T 0 ↔ ¬ within T z x y := by
  constructor
  · rintro ⟨u, j, _, h1, h2, h3, h4⟩ hw
    rw [hw u j h1 h2 h3] at h4
    cases h4
  · intro hw
    refine Classical.byContradiction fun h9 => hw fun u j hu hj hx => ?_
    cases hy : y u j
    · exact absurd ⟨u, j, by unfold pre; omega, hu, hj, hx, hy⟩ h9
    · rfl

/-- One table is another one now. -/
theorem F4.merge {w w' : World} {B R n T z : Nat} {ms : Nat → M4} {o : Nat → Nat → Nat → Bool} {b : Nat} {x : Nat → Nat → Bool} (h : F4 w B R n T z ms o) (hb : b < n) (hw : Wr w w' (rowsOf T (ms b))) (hx : S4 w' B T z (ms b) (fun v l => o b v l || x v l)) : F4 w' B R n T z ms (addK o b x) := by
  refine ⟨?_, fun i hi => ?_, h.apart, h.oR⟩
  · obtain ⟨cur, h1, h2⟩ := h.row
    refine ⟨cur, (hw.block _ (heap_lt h1) ?_).trans h1, h2⟩
    rintro ⟨u, hu, e⟩
    exact ((h.st b hb).fl u hu).off h1 (by decide) e
  · by_cases hib : i = b
    · subst hib
      exact hx.congr fun v l _ _ => addK_at o i x v l
    · refine ((h.st i hi).wr hw (fun u hu => ?_) (fun h0 => (h.st b hb).g_off (h.st i hi) h0)).congr fun v l _ _ => addK_ne hib
      rintro ⟨v, hv, e⟩
      exact hib (h.apart i b u v hi hb hu hv e)

end Go.Proofs.YtnoejapnjhogaaaGreatDoor.tr
