/-
  The program's lending in memory: the flows, and the loans that its points make.
-/
import Derived.Test.YtidjphifgemicaaGreatDoorZLkn
namespace Go.Proofs.YtidjphifgemicaaGreatDoor
open Go.RowKit Go.Deep
set_option linter.unusedVariables false

/-- The set of the numbers below k at which something holds. -/
def bitsK (p : Nat → Bool) : Nat → Nat
  | 0 => 0
  | k + 1 => if p k then bitsK p k ||| 2 ^ k else bitsK p k

theorem bitsK_lt (p : Nat → Bool) : ∀ k, bitsK p k < 2 ^ k
  | 0 => by show 0 < 1; decide
  | k + 1 => by
    have ih := bitsK_lt p k
    have h2 : 2 ^ k < 2 ^ (k + 1) := Nat.pow_lt_pow_right (by decide) (by omega)
    unfold bitsK
    split
    · exact Nat.or_lt_two_pow (by omega) h2
    · omega

theorem bitsK_bit (p : Nat → Bool) (i : Nat) : ∀ k, (bitsK p k).testBit i = (decide (i < k) && p i)
  | 0 => by simp [bitsK]
  | k + 1 => by
    have ih := bitsK_bit p i k
    unfold bitsK
    by_cases hik : i = k
    · subst hik
      split
      · rename_i h
        rw [Nat.testBit_or, ih, Nat.testBit_two_pow_self]
        simp [h]
      · rename_i h
        rw [ih]
        simp at h
        simp [h]
    · have e : decide (i < k + 1) = decide (i < k) := decide_eq_decide.mpr (by omega)
      split
      · rw [Nat.testBit_or, ih, Nat.testBit_two_pow, e, decide_eq_false (fun h : k = i => hik h.symm), Bool.or_false]
      · rw [ih, e]

theorem bitsK_61 (p : Nat → Bool) {k : Nat} (hk : k ≤ 61) : bitsK p k < 2305843009213693952 :=
  Nat.lt_of_lt_of_le (bitsK_lt p k) (Nat.pow_le_pow_right (by decide) hk : 2 ^ k ≤ 2 ^ 61)

/-- Which points make loans; which make loans that are unique; which make loans of a variable. -/
def isLoan (ns : List Nd) (i : Nat) : Bool := match ns[i]? with | some d => decide (d.op = 4 ∨ d.op = 5) | none => false
def isUniq (ns : List Nd) (i : Nat) : Bool := match ns[i]? with | some d => decide (d.op = 5) | none => false
def isFrom (ns : List Nd) (v i : Nat) : Bool := match ns[i]? with | some d => decide ((d.op = 4 ∨ d.op = 5) ∧ d.y = (v : Int)) | none => false

theorem isLoan_at {ns : List Nd} {i : Nat} {d : Nd} (h : ns[i]? = some d) : isLoan ns i = decide (d.op = 4 ∨ d.op = 5) := by unfold isLoan; rw [h]
theorem isUniq_at {ns : List Nd} {i : Nat} {d : Nd} (h : ns[i]? = some d) : isUniq ns i = decide (d.op = 5) := by unfold isUniq; rw [h]
theorem isFrom_at {ns : List Nd} {v i : Nat} {d : Nd} (h : ns[i]? = some d) : isFrom ns v i = decide ((d.op = 4 ∨ d.op = 5) ∧ d.y = (v : Int)) := by unfold isFrom; rw [h]

theorem isFrom_iff {ns : List Nd} {v i : Nat} : isFrom ns v i = true ↔ loanN ns i (v : Int) := by
  unfold isFrom loanN
  cases h : ns[i]? with
  | none => simp
  | some d => simp

/-- The cells of lending: the flows' block, the loans of the first m points. -/
structure LndC (ns : List Nd) (F m : Nat) (cs : Array Value) : Prop where
  size : cs.size = 558
  fl : cs[0]? = some (.pointer (some ⟨F, 0, none⟩))
  made : cs[1]? = some (.int .u64 (bitsK (isLoan ns) m : Nat))
  uniq : cs[2]? = some (.int .u64 (bitsK (isUniq ns) m : Nat))
  from_ : ∀ v, v < 6 → cs[3 + v]? = some (.int .u64 (bitsK (isFrom ns v) m : Nat))

/-- Rows of variables' sets in the cells cs from o on. -/
def VRow (cs : Array Value) (o : Nat) (kn : Nat → Nat) : Prop := ∀ i, i < 61 → cs[o + i]? = some (.int .u64 (kn i : Int))

/-- The lending in block L: so far, the loans of m points; the sets of what can have a value, and of what is live. -/
structure LndIn (ts : List Int) (ns : List Nd) (C F hi : Nat) (A : Option Addr) (c : Nat) (ah bk : Nat → Nat) (L m : Nat) (mb lv : Nat → Nat) (w : World) : Prop where
  fl : FlowsIn ts ns C F hi A c ah bk w
  row : ∃ cs, w.heap[L]? = some (.cells cs 77 (0, 0)) ∧ LndC ns F m cs ∧ VRow cs 9 mb ∧ VRow cs 70 lv
  lt : F < L ∧ C < L ∧ hi ≤ L

section
variable {ts : List Int} {ns : List Nd} {C F hi : Nat} {A : Option Addr} {c : Nat} {ah bk : Nat → Nat} {L m : Nat} {mb lv : Nat → Nat} {a b : World}

theorem LndIn.ltW (h : LndIn ts ns C F hi A c ah bk L m mb lv a) : L < a.heap.size := by
  obtain ⟨cs, h1, _⟩ := h.row
  exact heap_lt h1

theorem LndIn.keep (h : LndIn ts ns C F hi A c ah bk L m mb lv a) (hb : Below a.heap.size a b) : LndIn ts ns C F hi A c ah bk L m mb lv b := by
  refine ⟨h.fl.keep hb, ?_, h.lt⟩
  rw [hb.block L h.ltW]
  exact h.row

theorem LndIn.flCell (h : LndIn ts ns C F hi A c ah bk L m mb lv a) : a.cell? ⟨L, 0, none⟩ = some (.pointer (some ⟨F, 0, none⟩)) := by
  obtain ⟨cs, h1, h2, _⟩ := h.row
  rw [cell_of_block h1]
  exact h2.fl

theorem LndIn.madeCell (h : LndIn ts ns C F hi A c ah bk L m mb lv a) : a.cell? ⟨L, 1, none⟩ = some (.int .u64 (bitsK (isLoan ns) m : Nat)) := by
  obtain ⟨cs, h1, h2, _⟩ := h.row
  rw [cell_of_block h1]
  exact h2.made

theorem LndIn.uniqCell (h : LndIn ts ns C F hi A c ah bk L m mb lv a) : a.cell? ⟨L, 2, none⟩ = some (.int .u64 (bitsK (isUniq ns) m : Nat)) := by
  obtain ⟨cs, h1, h2, _⟩ := h.row
  rw [cell_of_block h1]
  exact h2.uniq

theorem LndIn.fromCell (h : LndIn ts ns C F hi A c ah bk L m mb lv a) {v : Nat} (hv : v < 6) : a.cell? ⟨L, 3 + v, none⟩ = some (.int .u64 (bitsK (isFrom ns v) m : Nat)) := by
  obtain ⟨cs, h1, h2, _⟩ := h.row
  rw [cell_of_block h1]
  exact h2.from_ v hv

theorem LndIn.mbCell (h : LndIn ts ns C F hi A c ah bk L m mb lv a) {i : Nat} (hi : i < 61) : a.cell? ⟨L, 9 + i, none⟩ = some (.int .u64 (mb i : Int)) := by
  obtain ⟨cs, h1, h2, h3, _⟩ := h.row
  rw [cell_of_block h1]
  exact h3 i hi

theorem LndIn.lvCell (h : LndIn ts ns C F hi A c ah bk L m mb lv a) {i : Nat} (hi : i < 61) : a.cell? ⟨L, 70 + i, none⟩ = some (.int .u64 (lv i : Int)) := by
  obtain ⟨cs, h1, h2, h3, h4⟩ := h.row
  rw [cell_of_block h1]
  exact h4 i hi

theorem LndIn.soft (h : LndIn ts ns C F hi A c ah bk L m mb lv a) (o : Nat) : a.frozen? ⟨L, o, none⟩ = false := by
  obtain ⟨cs, h1, _⟩ := h.row
  exact frozen_of_row _ _ _ _ _ h1

/-- A store into the lending's own block keeps the flows. -/
theorem FlowsIn.other (h : FlowsIn ts ns C F hi A c ah bk a) (hF : F < L) (hC : C < L) (hh : hi ≤ L) (o : Nat) (x : Value) : FlowsIn ts ns C F hi A c ah bk (a.setCell ⟨L, o, none⟩ x) := by
  refine ⟨?_, h.gr.kept (heap_setCell_other _ _ _ _ (by simp; omega)), h.sc.keep (Nat.le_refl _) (Nat.le_refl _) fun p h3 h4 => World.cell?_of_block (heap_setCell_other _ _ _ _ (by simp; omega)), ⟨h.lt.1, h.lt.2.1, by have := h.lt.2.2; simpa [World.setCell] using this⟩, h.sets⟩
  rw [heap_setCell_other _ _ _ _ (by simp; omega)]
  exact h.row

theorem set_get {cs : Array Value} {o : Nat} {x : Value} (ho : o < cs.size) (j : Nat) : (cs.setIfInBounds o x)[j]? = if j = o then some x else cs[j]? := by
  rw [Array.getElem?_setIfInBounds]
  by_cases h : o = j
  · subst h
    rw [if_pos rfl, if_pos rfl, if_pos ho]
  · rw [if_neg h, if_neg (fun e => h e.symm)]

/-- No loan is made here: the next point. -/
theorem LndIn.skip (h : LndIn ts ns C F hi A c ah bk L m mb lv a) {d : Nd} (hd : ns[m]? = some d) (hop : ¬ (d.op = 4 ∨ d.op = 5)) : LndIn ts ns C F hi A c ah bk L (m + 1) mb lv a := by
  obtain ⟨cs, h1, h2, h3, h4⟩ := h.row
  have e1 : bitsK (isLoan ns) (m + 1) = bitsK (isLoan ns) m := by
    show (if isLoan ns m then _ else _) = _
    rw [isLoan_at hd, decide_eq_false hop]; rfl
  have e2 : bitsK (isUniq ns) (m + 1) = bitsK (isUniq ns) m := by
    show (if isUniq ns m then _ else _) = _
    rw [isUniq_at hd, decide_eq_false (fun e => hop (.inr e))]; rfl
  have e3 : ∀ v, bitsK (isFrom ns v) (m + 1) = bitsK (isFrom ns v) m := by
    intro v
    show (if isFrom ns v m then _ else _) = _
    rw [isFrom_at hd, decide_eq_false (fun e => hop e.1)]; rfl
  exact ⟨h.fl, ⟨cs, h1, ⟨h2.size, h2.fl, by rw [e1]; exact h2.made, by rw [e2]; exact h2.uniq, fun v hv => by rw [e3]; exact h2.from_ v hv⟩, h3, h4⟩, h.lt⟩

/-- The loan of a point is laid: made, from, and unique if it is. -/
theorem LndIn.lay (h : LndIn ts ns C F hi A c ah bk L m mb lv a) {d : Nd} (hd : ns[m]? = some d) (hop : d.op = 4 ∨ d.op = 5) {y : Nat} (hy : d.y = (y : Int)) (hy6 : y < 6) :
    (d.op = 4 → LndIn ts ns C F hi A c ah bk L (m + 1) mb lv ((a.setCell ⟨L, 1, none⟩ (.int .u64 ((bitsK (isLoan ns) m ||| 2 ^ m : Nat) : Int))).setCell ⟨L, 3 + y, none⟩ (.int .u64 ((bitsK (isFrom ns y) m ||| 2 ^ m : Nat) : Int)))) ∧
    (d.op = 5 → LndIn ts ns C F hi A c ah bk L (m + 1) mb lv (((a.setCell ⟨L, 1, none⟩ (.int .u64 ((bitsK (isLoan ns) m ||| 2 ^ m : Nat) : Int))).setCell ⟨L, 3 + y, none⟩ (.int .u64 ((bitsK (isFrom ns y) m ||| 2 ^ m : Nat) : Int))).setCell ⟨L, 2, none⟩ (.int .u64 ((bitsK (isUniq ns) m ||| 2 ^ m : Nat) : Int)))) := by
  obtain ⟨cs, h1, h2, h3, h4⟩ := h.row
  have hz := h2.size
  have e1 : bitsK (isLoan ns) (m + 1) = bitsK (isLoan ns) m ||| 2 ^ m := by
    show (if isLoan ns m then _ else _) = _
    rw [isLoan_at hd, decide_eq_true hop]; rfl
  have e3 : ∀ v, bitsK (isFrom ns v) (m + 1) = if v = y then bitsK (isFrom ns v) m ||| 2 ^ m else bitsK (isFrom ns v) m := by
    intro v
    show (if isFrom ns v m then _ else _) = _
    rw [isFrom_at hd]
    by_cases hv : v = y
    · subst hv
      rw [decide_eq_true ⟨hop, hy⟩, if_pos rfl, if_pos rfl]
    · rw [decide_eq_false (fun e => hv (by have := e.2; omega)), if_neg hv, if_neg (by simp)]
  have r1 := heap_setCell_same a L 1 cs _ (.int .u64 ((bitsK (isLoan ns) m ||| 2 ^ m : Nat) : Int)) h1
  have r2 := heap_setCell_same _ L (3 + y) _ _ (.int .u64 ((bitsK (isFrom ns y) m ||| 2 ^ m : Nat) : Int)) r1
  have f1 := h.fl.other h.lt.1 h.lt.2.1 h.lt.2.2 1 (.int .u64 ((bitsK (isLoan ns) m ||| 2 ^ m : Nat) : Int))
  have f2 := f1.other h.lt.1 h.lt.2.1 h.lt.2.2 (3 + y) (.int .u64 ((bitsK (isFrom ns y) m ||| 2 ^ m : Nat) : Int))
  have z1 : (cs.setIfInBounds 1 (.int .u64 ((bitsK (isLoan ns) m ||| 2 ^ m : Nat) : Int))).size = 558 := by simpa using hz
  have z2 : ((cs.setIfInBounds 1 (.int .u64 ((bitsK (isLoan ns) m ||| 2 ^ m : Nat) : Int))).setIfInBounds (3 + y) (.int .u64 ((bitsK (isFrom ns y) m ||| 2 ^ m : Nat) : Int))).size = 558 := by simpa using hz
  refine ⟨fun h4' => ⟨f2, ⟨_, r2, ⟨z2, ?_, ?_, ?_, fun v hv => ?_⟩, fun i hi => ?_, fun i hi => ?_⟩, h.lt⟩, fun h5 => ?_⟩
  · rw [set_get (by omega), if_neg (by omega), set_get (by omega), if_neg (by omega)]; exact h2.fl
  · rw [set_get (by omega), if_neg (by omega), set_get (by omega), if_pos rfl, e1]
  · rw [set_get (by omega), if_neg (by omega), set_get (by omega), if_neg (by omega)]
    have e2 : bitsK (isUniq ns) (m + 1) = bitsK (isUniq ns) m := by
      show (if isUniq ns m then _ else _) = _
      rw [isUniq_at hd, decide_eq_false (by omega)]; rfl
    rw [e2]; exact h2.uniq
  · rw [set_get (by omega), e3]
    by_cases hvy : v = y
    · subst hvy
      rw [if_pos rfl, if_pos rfl]
    · rw [if_neg (by omega), set_get (by omega), if_neg (by omega), if_neg hvy]
      exact h2.from_ v hv
  · rw [set_get (by omega), if_neg (by omega), set_get (by omega), if_neg (by omega)]; exact h3 i hi
  · rw [set_get (by omega), if_neg (by omega), set_get (by omega), if_neg (by omega)]; exact h4 i hi
  · have r3 := heap_setCell_same _ L 2 _ _ (.int .u64 ((bitsK (isUniq ns) m ||| 2 ^ m : Nat) : Int)) r2
    have f3 := f2.other h.lt.1 h.lt.2.1 h.lt.2.2 2 (.int .u64 ((bitsK (isUniq ns) m ||| 2 ^ m : Nat) : Int))
    have e2 : bitsK (isUniq ns) (m + 1) = bitsK (isUniq ns) m ||| 2 ^ m := by
      show (if isUniq ns m then _ else _) = _
      rw [isUniq_at hd, decide_eq_true h5]; rfl
    refine ⟨f3, ⟨_, r3, ⟨by simpa using hz, ?_, ?_, ?_, fun v hv => ?_⟩, fun i hi => ?_, fun i hi => ?_⟩, h.lt⟩
    · rw [set_get (by omega), if_neg (by omega), set_get (by omega), if_neg (by omega), set_get (by omega), if_neg (by omega)]; exact h2.fl
    · rw [set_get (by omega), if_neg (by omega), set_get (by omega), if_neg (by omega), set_get (by omega), if_pos rfl, e1]
    · rw [set_get (by omega), if_pos rfl, e2]
    · rw [set_get (by omega), if_neg (by omega), set_get (by omega), e3]
      by_cases hvy : v = y
      · subst hvy
        rw [if_pos rfl, if_pos rfl]
      · rw [if_neg (by omega), set_get (by omega), if_neg (by omega), if_neg hvy]
        exact h2.from_ v hv
    · rw [set_get (by omega), if_neg (by omega), set_get (by omega), if_neg (by omega), set_get (by omega), if_neg (by omega)]; exact h3 i hi
    · rw [set_get (by omega), if_neg (by omega), set_get (by omega), if_neg (by omega), set_get (by omega), if_neg (by omega)]; exact h4 i hi
end

end Go.Proofs.YtidjphifgemicaaGreatDoor
