/-
  Tables of flags in memory: a row of rows of flags; being made by append; a row that is written, a row that is replaced.
-/
import Derived.Test.YtnoejapnjhogaaaGreatDoorZL4Ad
import Derived.Test.YtnoejapnjhogaaaGreatDoorZT4P
import Derived.Deep.AppendLies
namespace Go.Proofs.YtnoejapnjhogaaaGreatDoor
open Go.RowKit Go.Deep
set_option linter.unusedVariables false

/-- Another type: another block. -/
theorem FlW.off {w : World} {F n F' : Nat} {fl : Nat → Bool} {cur : Array Value} {ty : TypeId} {z : Nat × Nat} (h : FlW w F n fl) (h' : w.heap[F']? = some (.cells cur ty z)) (ht : ty ≠ 4) : F' ≠ F := by
  rintro rfl
  obtain ⟨cs, h1, _⟩ := h
  rw [h1] at h'
  injection h' with h'
  injection h' with _ h' _
  exact ht h'.symm

theorem FlW.off_row {w : World} {F n : Nat} {fl : Nat → Bool} (h : FlW w F n fl) {t : TypeId} {s : Nat} {v : Value} {B m : Nat} {xs : List Value} (ho : w.ownsRow B t s v m xs) (ht : t ≠ 4) : some F ≠ v.ownBlock := by
  intro e
  obtain ⟨cs, h1, _⟩ := h
  obtain ⟨cur, hc⟩ := ownBlock_row ho F e.symm
  rw [h1] at hc
  injection hc with hc
  injection hc with _ hc _
  exact ht hc.symm

namespace tr

/-- Where a table lies: the row of rows, the rows' blocks and their rooms. -/
structure M4 where
  fa : Option Addr
  g : Nat
  cf : Nat
  bl : Nat → Nat
  cp : Nat → Nat

/-- A table as a value. -/
def M4.val (m : M4) (T : Nat) : Value := .slice m.fa T m.cf

/-- A table of T rows of n flags in memory: its blocks lie from B on. -/
structure S4 (w : World) (B T n : Nat) (m : M4) (S : Nat → Nat → Bool) : Prop where
  fa : 0 < T → m.fa = some ⟨m.g, 0, none⟩
  row : 0 < T → ∃ cur, w.heap[m.g]? = some (.cells cur 50 (0, 0)) ∧ ∀ v, v < T → cur[v]? = some (.slice (some ⟨m.bl v, 0, none⟩) n (m.cp v))
  cf : T ≤ m.cf ∧ m.cf ≤ maxLen
  fl : ∀ v, v < T → FlW w (m.bl v) n (S v)
  cp : ∀ v, v < T → n ≤ m.cp v ∧ m.cp v ≤ maxLen
  inj : ∀ u v, u < T → v < T → m.bl u = m.bl v → u = v
  own : ∀ v, v < T → B ≤ m.bl v
  og : 0 < T → B ≤ m.g

section
variable {w w' : World} {B T n : Nat} {m : M4} {S : Nat → Nat → Bool}

theorem S4.keep (h : S4 w B T n m S) (hb : Below w.heap.size w w') : S4 w' B T n m S :=
  ⟨h.fa, fun h0 => by
    obtain ⟨cur, h1, h2⟩ := h.row h0
    exact ⟨cur, (hb.block _ (heap_lt h1)).trans h1, h2⟩, h.cf, fun v hv => (h.fl v hv).keep (hb.block _ (h.fl v hv).lt), h.cp, h.inj, h.own, h.og⟩

/-- Blocks of rows and of flags alone are asked for. -/
theorem S4.carry (h : S4 w B T n m S) (hk : ∀ (k : Nat) (cs : Array Value) (t : TypeId), w.heap[k]? = some (Obj.cells cs t (0, 0)) → (t = 4 ∨ t = 50) → w'.heap[k]? = w.heap[k]?) : S4 w' B T n m S :=
  ⟨h.fa, fun h0 => by
    obtain ⟨cur, h1, h2⟩ := h.row h0
    exact ⟨cur, (hk _ _ _ h1 (.inr rfl)).trans h1, h2⟩, h.cf, fun v hv => by
      obtain ⟨cs, h1, h2⟩ := h.fl v hv
      exact ⟨cs, (hk _ _ _ h1 (.inl rfl)).trans h1, h2⟩, h.cp, h.inj, h.own, h.og⟩

/-- One row of the table is written. -/
theorem S4.write {u : Nat} {x : Nat → Bool} (h : S4 w B T n m S) (hu : u < T) (hg : w.grownBy w' (some (m.bl u))) (hx : FlW w' (m.bl u) n x) : S4 w' B T n m (setR S u x) :=
  ⟨h.fa, fun h0 => by
    obtain ⟨cur, h1, h2⟩ := h.row h0
    exact ⟨cur, (hg.block _ (heap_lt h1) (fun e => (h.fl u hu).off h1 (by decide) (by injection e))).trans h1, h2⟩, h.cf, fun v hv => by
    by_cases hvu : v = u
    · subst hvu
      rw [setR_at]
      exact hx
    · rw [setR_ne _ _ _ hvu]
      exact (h.fl v hv).keep (hg.block _ (h.fl v hv).lt (fun e => hvu (h.inj v u hv hu (by injection e)))), h.cp, h.inj, h.own, h.og⟩

/-- A row somewhere else is written. -/
theorem S4.aside {F : Nat} {x : Nat → Bool} (h : S4 w B T n m S) (hF : FlW w F n x) (hne : ∀ v, v < T → m.bl v ≠ F) (hg : w.grownBy w' (some F)) : S4 w' B T n m S :=
  ⟨h.fa, fun h0 => by
    obtain ⟨cur, h1, h2⟩ := h.row h0
    exact ⟨cur, (hg.block _ (heap_lt h1) (fun e => hF.off h1 (by decide) (by injection e))).trans h1, h2⟩, h.cf, fun v hv => (h.fl v hv).keep (hg.block _ (h.fl v hv).lt (fun e => hne v hv (by injection e))), h.cp, h.inj, h.own, h.og⟩

theorem S4.slot (h : S4 w B T n m S) {v : Nat} (hv : v < T) : w.cell? ⟨m.g, v, none⟩ = some (.slice (some ⟨m.bl v, 0, none⟩) n (m.cp v)) := by
  obtain ⟨cur, h1, h2⟩ := h.row (by omega)
  exact (cell_of_block h1 v).trans (h2 v hv)

theorem S4.soft (h : S4 w B T n m S) (h0 : 0 < T) (o : Nat) : w.frozen? ⟨m.g, o, none⟩ = false := by
  obtain ⟨cur, h1, h2⟩ := h.row h0
  exact frozen_of_row _ _ _ _ _ h1

theorem S4.glt (h : S4 w B T n m S) (h0 : 0 < T) : m.g < w.heap.size := by
  obtain ⟨cur, h1, h2⟩ := h.row h0
  exact heap_lt h1

theorem S4.lower {B' : Nat} (h : S4 w B T n m S) (hB : B' ≤ B) : S4 w B' T n m S :=
  ⟨h.fa, h.row, h.cf, h.fl, h.cp, h.inj, fun v hv => Nat.le_trans hB (h.own v hv), fun h0 => Nat.le_trans hB (h.og h0)⟩

/-- A table, said otherwise. -/
theorem S4.congr {S' : Nat → Nat → Bool} (h : S4 w B T n m S) (e : ∀ v l, v < T → l < n → S' v l = S v l) : S4 w B T n m S' :=
  ⟨h.fa, h.row, h.cf, fun v hv => (h.fl v hv).congr (fun l hl => e v l hv hl), h.cp, h.inj, h.own, h.og⟩

/-- Where a table lies whose row v is another one now. -/
def M4.swap (m : M4) (v F c : Nat) : M4 := ⟨m.fa, m.g, m.cf, setR m.bl v F, setR m.cp v c⟩

theorem S4.swap (h : S4 w B T n m S) {v F c : Nat} {x : Nat → Bool} (hv : v < T) (hF : FlW w F n x) (hne : ∀ u, u < T → u ≠ v → m.bl u ≠ F) (hFB : B ≤ F) (hc : n ≤ c ∧ c ≤ maxLen) :
    S4 (w.setCell ⟨m.g, v, none⟩ (.slice (some ⟨F, 0, none⟩) n c)) B T n (m.swap v F c) (setR S v x) := by
  obtain ⟨cur, h1, h2⟩ := h.row (by omega)
  have hz : v < cur.size := (Array.getElem?_eq_some_iff.mp (h2 v hv)).1
  have hkeep : ∀ {u : Nat} {y : Nat → Bool}, FlW w u n y → FlW (w.setCell ⟨m.g, v, none⟩ (.slice (some ⟨F, 0, none⟩) n c)) u n y := fun hy => hy.keep (heap_setCell_other _ _ _ _ (fun e => hy.off h1 (by decide) e.symm))
  refine ⟨h.fa, fun _ => ⟨_, heap_setCell_same w m.g v cur _ _ h1, fun u hu => ?_⟩, h.cf, fun u hu => ?_, fun u hu => ?_, fun a b ha hb e => ?_, fun u hu => ?_, h.og⟩
  · rw [Array.getElem?_setIfInBounds]
    show _ = some (Value.slice (some ⟨setR m.bl v F u, 0, none⟩) n (setR m.cp v c u))
    by_cases huv : v = u
    · subst huv
      rw [if_pos rfl, if_pos hz, setR_at, setR_at]
    · rw [if_neg huv, setR_ne _ _ _ (Ne.symm huv), setR_ne _ _ _ (Ne.symm huv)]
      exact h2 u hu
  · show FlW _ (setR m.bl v F u) n (setR S v x u)
    by_cases huv : u = v
    · subst huv
      rw [setR_at, setR_at]
      exact hkeep hF
    · rw [setR_ne _ _ _ huv, setR_ne _ _ _ huv]
      exact hkeep (h.fl u hu)
  · show n ≤ setR m.cp v c u ∧ setR m.cp v c u ≤ maxLen
    by_cases huv : u = v
    · subst huv
      rw [setR_at]
      exact hc
    · rw [setR_ne _ _ _ huv]
      exact h.cp u hu
  · have e' : setR m.bl v F a = setR m.bl v F b := e
    by_cases hav : a = v
    · by_cases hbv : b = v
      · omega
      · subst hav
        rw [setR_at, setR_ne _ _ _ hbv] at e'
        exact absurd e'.symm (hne b hb hbv)
    · by_cases hbv : b = v
      · subst hbv
        rw [setR_at, setR_ne _ _ _ hav] at e'
        exact absurd e' (hne a ha hav)
      · rw [setR_ne _ _ _ hav, setR_ne _ _ _ hbv] at e'
        exact h.inj a b ha hb e'
  · show B ≤ setR m.bl v F u
    by_cases huv : u = v
    · subst huv
      rw [setR_at]
      exact hFB
    · rw [setR_ne _ _ _ huv]
      exact h.own u hu
end

/-- Rows of flags x, in the row v. -/
def Rows4 (w : World) (B : Nat) (v : Value) (k n : Nat) (bl cp : Nat → Nat) (x : Nat → Nat → Bool) : Prop :=
  ∃ xs, w.ownsRow B 50 1 v k xs ∧ (∀ u, u < k → xs[u]? = some (.slice (some ⟨bl u, 0, none⟩) n (cp u)) ∧ B ≤ bl u ∧ (n ≤ cp u ∧ cp u ≤ maxLen) ∧ FlW w (bl u) n (x u)) ∧ ∀ i j, i < k → j < k → bl i = bl j → i = j

section
variable {w w' : World} {B : Nat} {v : Value} {k n : Nat} {bl cp : Nat → Nat} {x : Nat → Nat → Bool}

theorem Rows4.below (h : Rows4 w B v k n bl cp x) (hb : Below w.heap.size w w') : Rows4 w' B v k n bl cp x := by
  obtain ⟨xs, ho, h1, h2⟩ := h
  exact ⟨xs, ho.kept (below_grown hb) (by cases hv : v.ownBlock <;> simp), fun u hu => ⟨(h1 u hu).1, (h1 u hu).2.1, (h1 u hu).2.2.1, (h1 u hu).2.2.2.keep (hb.block _ (h1 u hu).2.2.2.lt)⟩, h2⟩

theorem Rows4.nil (w : World) (B n : Nat) (x : Nat → Nat → Bool) (hB : B ≤ w.heap.size) : Rows4 (w.alloc (.cells #[] 50)) B (.slice (some ⟨w.heap.size, 0, none⟩) 0 0) 0 n (fun _ => 0) (fun _ => 0) x :=
  ⟨[], World.ownsRow_lit (base := B) (e := 50) (size := 1) w #[] 0 hB (by simp [maxLen]) rfl, fun i hi => absurd hi (Nat.not_lt_zero _), fun i j hi => absurd hi (Nat.not_lt_zero _)⟩

theorem Rows4.slice (h : Rows4 w B v k n bl cp x) : ∃ A c, v = .slice A k c ∧ k ≤ c ∧ c ≤ maxLen := by
  obtain ⟨xs, ho, _⟩ := h
  rcases ho.2 with ⟨rfl, h0⟩ | ⟨g, cap, cur, hv, _, _, h4, h5, _⟩
  · subst h0
    exact ⟨none, 0, rfl, Nat.le_refl _, Nat.zero_le _⟩
  · exact ⟨_, _, hv, h4, h5⟩

theorem Rows4.lt (h : Rows4 w B v k n bl cp x) {u : Nat} (hu : u < k) : bl u < w.heap.size := by
  obtain ⟨xs, _, h1, _⟩ := h
  exact (h1 u hu).2.2.2.lt

/-- One row more. -/
theorem Rows4.more {w2 : World} {g cap F c : Nat} {xs : List Value} (ho : w.ownsRow B 50 1 v k xs) (h1 : ∀ u, u < k → xs[u]? = some (.slice (some ⟨bl u, 0, none⟩) n (cp u)) ∧ B ≤ bl u ∧ (n ≤ cp u ∧ cp u ≤ maxLen) ∧ FlW w (bl u) n (x u)) (h2 : ∀ i j, i < k → j < k → bl i = bl j → i = j)
    (hF : FlW w F n (x k)) (hne : ∀ u, u < k → bl u ≠ F) (hFB : B ≤ F) (hc : n ≤ c ∧ c ≤ maxLen) (hg : w.grownBy w2 v.ownBlock)
    (ho2 : w2.ownsRow B 50 1 (.slice (some ⟨g, 0, none⟩) (k + 1) cap) (k + 1) (xs ++ [.slice (some ⟨F, 0, none⟩) n c])) :
    Rows4 w2 B (.slice (some ⟨g, 0, none⟩) (k + 1) cap) (k + 1) n (setR bl k F) (setR cp k c) x := by
  have hl : xs.length = k := by have := ho.1; omega
  refine ⟨_, ho2, fun u hu => ?_, fun i j hi hj e => ?_⟩
  · by_cases huk : u = k
    · subst huk
      rw [setR_at, setR_at]
      exact ⟨by rw [← hl]; simp, hFB, hc, hF.keep (hg.block _ hF.lt (hF.off_row ho (by decide)))⟩
    · rw [setR_ne _ _ _ huk, setR_ne _ _ _ huk]
      obtain ⟨a1, a2, a3, a4⟩ := h1 u (by omega)
      exact ⟨by rw [List.getElem?_append_left (by omega)]; exact a1, a2, a3, a4.keep (hg.block _ a4.lt (a4.off_row ho (by decide)))⟩
  · by_cases hik : i = k
    · by_cases hjk : j = k
      · omega
      · subst hik
        rw [setR_at, setR_ne _ _ _ hjk] at e
        exact absurd e.symm (hne j (by omega))
    · by_cases hjk : j = k
      · subst hjk
        rw [setR_at, setR_ne _ _ _ hik] at e
        exact absurd e (hne i (by omega))
      · rw [setR_ne _ _ _ hik, setR_ne _ _ _ hjk] at e
        exact h2 i j (by omega) (by omega) e

theorem Rows4.congr {y : Nat → Nat → Bool} (h : Rows4 w B v k n bl cp x) (e : ∀ u l, u < k → l < n → y u l = x u l) : Rows4 w B v k n bl cp y := by
  obtain ⟨xs, ho, h1, h2⟩ := h
  exact ⟨xs, ho, fun u hu => ⟨(h1 u hu).1, (h1 u hu).2.1, (h1 u hu).2.2.1, (h1 u hu).2.2.2.congr (fun l hl => e u l hu hl)⟩, h2⟩
end

/-- The block of an address. -/
def blkOf : Option Addr → Nat
  | some a => a.block
  | none => 0

/-- The table, made. -/
theorem Rows4.done {w : World} {B T n : Nat} {fa : Option Addr} {cf : Nat} {bl cp : Nat → Nat} {x : Nat → Nat → Bool} (h : Rows4 w B (.slice fa T cf) T n bl cp x) :
    S4 w B T n ⟨fa, blkOf fa, cf, bl, cp⟩ x := by
  have hcf : T ≤ cf ∧ cf ≤ maxLen := by
    obtain ⟨A, c, e, h3, h4⟩ := h.slice
    injection e with _ _ e
    subst e
    exact ⟨h3, h4⟩
  obtain ⟨xs, ho, h1, h2⟩ := h
  have hform : 0 < T → ∃ g cur, fa = some ⟨g, 0, none⟩ ∧ B ≤ g ∧ w.heap[g]? = some (.cells cur 50 (0, 0)) ∧ ∀ v, v < T → cur[v]? = xs[v]? := fun h0 => by
    rcases ho.2 with ⟨_, e⟩ | ⟨g, cap, cur, hv, hB, h3, h4, h5, h6, h7⟩
    · omega
    · injection hv with hv _ _
      refine ⟨g, cur, hv, hB, h3, fun v hv => ?_⟩
      rw [← h7, List.getElem?_take, if_pos (by omega)]
      simp
  refine ⟨fun h0 => ?_, fun h0 => ?_, hcf, fun v hv => (h1 v hv).2.2.2, fun v hv => (h1 v hv).2.2.1, h2, fun v hv => (h1 v hv).2.1, fun h0 => ?_⟩
  · obtain ⟨g, cur, rfl, _⟩ := hform h0
    rfl
  · obtain ⟨g, cur, rfl, _, h8, h9⟩ := hform h0
    refine ⟨cur, h8, fun v hv => ?_⟩
    rw [h9 v hv]
    exact (h1 v hv).1
  · obtain ⟨g, cur, rfl, hB, _⟩ := hform h0
    exact hB

/-- The tables before all points: R is their row. -/
structure F4 (w : World) (B R n T z : Nat) (ms : Nat → M4) (o : Nat → Nat → Nat → Bool) : Prop where
  row : ∃ cur, w.heap[R]? = some (.cells cur 51 (0, 0)) ∧ ∀ i, i < n → cur[i]? = some (.slice (ms i).fa T (ms i).cf)
  st : ∀ i, i < n → S4 w B T z (ms i) (o i)
  apart : ∀ i j u v, i < n → j < n → u < T → v < T → (ms i).bl u = (ms j).bl v → i = j
  oR : B ≤ R

section
variable {w w' : World} {B R n T z : Nat} {ms : Nat → M4} {o : Nat → Nat → Nat → Bool}

theorem F4.lt (h : F4 w B R n T z ms o) : R < w.heap.size := by
  obtain ⟨cur, h1, _⟩ := h.row
  exact heap_lt h1

theorem F4.keep (h : F4 w B R n T z ms o) (hb : Below w.heap.size w w') : F4 w' B R n T z ms o :=
  ⟨(by
    obtain ⟨cur, h1, h2⟩ := h.row
    exact ⟨cur, (hb.block _ (heap_lt h1)).trans h1, h2⟩), fun i hi => (h.st i hi).keep hb, h.apart, h.oR⟩

theorem F4.cell (h : F4 w B R n T z ms o) {i : Nat} (hi : i < n) : w.cell? ⟨R, i, none⟩ = some (.slice (ms i).fa T (ms i).cf) := by
  obtain ⟨cur, h1, h2⟩ := h.row
  exact (cell_of_block h1 _).trans (h2 i hi)

/-- A row of one table is written. -/
theorem F4.write {b u : Nat} {x : Nat → Bool} (h : F4 w B R n T z ms o) (hb : b < n) (hu : u < T) (hg : w.grownBy w' (some ((ms b).bl u))) (hx : FlW w' ((ms b).bl u) z x) : F4 w' B R n T z ms (setR o b (setR (o b) u x)) := by
  refine ⟨?_, fun i hi => ?_, h.apart, h.oR⟩
  · obtain ⟨cur, h1, h2⟩ := h.row
    exact ⟨cur, (hg.block _ (heap_lt h1) (fun e => ((h.st b hb).fl u hu).off h1 (by decide) (by injection e))).trans h1, h2⟩
  · by_cases hib : i = b
    · subst hib
      rw [setR_at]
      exact (h.st i hi).write hu hg hx
    · rw [setR_ne _ _ _ hib]
      exact (h.st i hi).aside ((h.st b hb).fl u hu) (fun v hv e => hib (h.apart i b v u hi hb hv hu e)) hg

theorem F4.congr {o' : Nat → Nat → Nat → Bool} (h : F4 w B R n T z ms o) (e : ∀ m v l, m < n → v < T → l < z → o' m v l = o m v l) : F4 w B R n T z ms o' :=
  ⟨h.row, fun i hi => (h.st i hi).congr (fun v l hv hl => e i v l hi hv hl), h.apart, h.oR⟩
end

/-- Tables that are being made, one behind the other. -/
def Rows5 (w : World) (B : Nat) (v : Value) (k T z : Nat) (ms : Nat → M4) : Prop :=
  ∃ xs, w.ownsRow B 51 1 v k xs ∧ (∀ i, i < k → xs[i]? = some (.slice (ms i).fa T (ms i).cf)) ∧ (∀ i, i < k → S4 w B T z (ms i) (fun _ _ => false)) ∧ ∀ i j u v, i < k → j < k → u < T → v < T → (ms i).bl u = (ms j).bl v → i = j

section
variable {w w' : World} {B : Nat} {v : Value} {k T z : Nat} {ms : Nat → M4}

theorem Rows5.below (h : Rows5 w B v k T z ms) (hb : Below w.heap.size w w') : Rows5 w' B v k T z ms := by
  obtain ⟨xs, ho, h1, h2, h3⟩ := h
  exact ⟨xs, ho.kept (below_grown hb) (by cases hv : v.ownBlock <;> simp), h1, fun i hi => (h2 i hi).keep hb, h3⟩

theorem Rows5.nil (w : World) (B T z : Nat) (hB : B ≤ w.heap.size) : Rows5 (w.alloc (.cells #[] 51)) B (.slice (some ⟨w.heap.size, 0, none⟩) 0 0) 0 T z (fun _ => ⟨none, 0, 0, fun _ => 0, fun _ => 0⟩) :=
  ⟨[], World.ownsRow_lit (base := B) (e := 51) (size := 1) w #[] 0 hB (by simp [maxLen]) rfl, fun i hi => absurd hi (Nat.not_lt_zero _), fun i hi => absurd hi (Nat.not_lt_zero _), fun i j u v hi => absurd hi (Nat.not_lt_zero _)⟩

theorem Rows5.slice (h : Rows5 w B v k T z ms) : ∃ A c, v = .slice A k c ∧ k ≤ c ∧ c ≤ maxLen := by
  obtain ⟨xs, ho, _⟩ := h
  rcases ho.2 with ⟨rfl, h0⟩ | ⟨g, cap, cur, hv, _, _, h4, h5, _⟩
  · subst h0
    exact ⟨none, 0, rfl, Nat.le_refl _, Nat.zero_le _⟩
  · exact ⟨_, _, hv, h4, h5⟩

theorem Rows5.lt (h : Rows5 w B v k T z ms) {i u : Nat} (hi : i < k) (hu : u < T) : (ms i).bl u < w.heap.size := by
  obtain ⟨xs, _, _, h2, _⟩ := h
  exact ((h2 i hi).fl u hu).lt

theorem S4.grown {m : M4} {S : Nat → Nat → Bool} {xs : List Value} (h : S4 w B T z m S) (ho : w.ownsRow B 51 1 v k xs) (hg : w.grownBy w' v.ownBlock) : S4 w' B T z m S :=
  h.carry fun g cs t h1 ht => hg.block _ (heap_lt h1) (fun e => by
    obtain ⟨cur', h3⟩ := ownBlock_row ho g e.symm
    rw [h1] at h3
    injection h3 with h3
    injection h3 with _ h3 _
    rcases ht with rfl | rfl <;> exact absurd h3 (by decide))

/-- One table more. -/
theorem Rows5.more {w2 : World} {g cap : Nat} {m : M4} {xs : List Value} {K : Nat} (ho : w.ownsRow B 51 1 v k xs)
    (h1 : ∀ i, i < k → xs[i]? = some (.slice (ms i).fa T (ms i).cf))
    (h2 : ∀ i, i < k → S4 w B T z (ms i) (fun _ _ => false)) (h3 : ∀ i j u v, i < k → j < k → u < T → v < T → (ms i).bl u = (ms j).bl v → i = j)
    (hm : S4 w K T z m (fun _ _ => false)) (hK : B ≤ K) (hlt : ∀ i u, i < k → u < T → (ms i).bl u < K) (hg : w.grownBy w2 v.ownBlock)
    (ho2 : w2.ownsRow B 51 1 (.slice (some ⟨g, 0, none⟩) (k + 1) cap) (k + 1) (xs ++ [.slice m.fa T m.cf])) :
    Rows5 w2 B (.slice (some ⟨g, 0, none⟩) (k + 1) cap) (k + 1) T z (setR ms k m) := by
  have hl : xs.length = k := by have := ho.1; omega
  refine ⟨_, ho2, fun i hi => ?_, fun i hi => ?_, fun i j u v hi hj hu hv e => ?_⟩
  · by_cases hik : i = k
    · subst hik
      rw [setR_at, ← hl]
      simp
    · rw [setR_ne _ _ _ hik, List.getElem?_append_left (by omega)]
      exact h1 i (by omega)
  · by_cases hik : i = k
    · subst hik
      rw [setR_at]
      exact (hm.lower hK).grown ho hg
    · rw [setR_ne _ _ _ hik]
      exact (h2 i (by omega)).grown ho hg
  · by_cases hik : i = k
    · by_cases hjk : j = k
      · omega
      · subst hik
        rw [setR_at, setR_ne _ _ _ hjk] at e
        have := hlt j v (by omega) hv
        have := hm.own u hu
        omega
    · by_cases hjk : j = k
      · subst hjk
        rw [setR_at, setR_ne _ _ _ hik] at e
        have := hlt i u (by omega) hu
        have := hm.own v hv
        omega
      · rw [setR_ne _ _ _ hik, setR_ne _ _ _ hjk] at e
        exact h3 i j u v (by omega) (by omega) hu hv e

/-- The tables, made. -/
theorem Rows5.done {n : Nat} (h : Rows5 w B v n T z ms) (hn : 0 < n) : ∃ R c, v = .slice (some ⟨R, 0, none⟩) n c ∧ n ≤ c ∧ c ≤ maxLen ∧ F4 w B R n T z ms (fun _ _ _ => false) := by
  obtain ⟨xs, ho, h1, h2, h3⟩ := h
  rcases ho.2 with ⟨_, e⟩ | ⟨g, cap, cur, hv, hB, h4, h5, h6, h7, h8⟩
  · omega
  · refine ⟨g, cap, hv, h5, h6, ⟨⟨cur, h4, fun i hi => ?_⟩, h2, h3, hB⟩⟩
    rw [← h1 i hi, ← h8, List.getElem?_take, if_pos (by omega)]
    simp
end

end tr
end Go.Proofs.YtnoejapnjhogaaaGreatDoor
