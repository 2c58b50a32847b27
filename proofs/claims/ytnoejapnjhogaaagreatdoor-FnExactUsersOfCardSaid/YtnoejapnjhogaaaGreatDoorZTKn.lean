/-
  Rows of sets in memory: six for each point.
-/
import Derived.Test.YtnoejapnjhogaaaGreatDoorZTfl
import Derived.Test.YtnoejapnjhogaaaGreatDoorZPerG
namespace Go.Proofs.YtnoejapnjhogaaaGreatDoor.tr
open Go.RowKit Go.Deep
set_option linter.unusedVariables false

/-- Rows of sets in the cells cs from o on. -/
def LRows (cs : Array Value) (o : Nat) (kn : Nat → Nat → Nat) : Prop := ∀ m, m < 61 → ∀ v, v < 6 → cs[o + (m * 6 + v)]? = some (.int .u64 (kn m v : Int))

/-- Rows of sets in block K. -/
def LKn (t : TypeId) (w : World) (K : Nat) (kn : Nat → Nat → Nat) : Prop := ∃ cs, w.heap[K]? = some (.cells cs t (0, 0)) ∧ cs.size = 366 ∧ LRows cs 0 kn

theorem LKn.lt {t : TypeId} {w : World} {K : Nat} {kn : Nat → Nat → Nat} (h : LKn t w K kn) : K < w.heap.size := by
  obtain ⟨cs, h1, _⟩ := h
  exact heap_lt h1

theorem LKn.cell {t : TypeId} {w : World} {K : Nat} {kn : Nat → Nat → Nat} (h : LKn t w K kn) {m v : Nat} (hm : m < 61) (hv : v < 6) : w.cell? ⟨K, m * 6 + v, none⟩ = some (.int .u64 (kn m v : Int)) := by
  obtain ⟨cs, h1, _, h3⟩ := h
  rw [cell_of_block h1]
  have := h3 m hm v hv
  rwa [Nat.zero_add] at this

theorem LKn.range {t : TypeId} {w : World} {K : Nat} {kn : Nat → Nat → Nat} (h : LKn t w K kn) {m : Nat} (hm : m < 61) : w.rangeAt K (m * 6) (perC (kn m)) := by
  intro j v hv
  have hj : j < 6 := (List.getElem?_eq_some_iff.mp hv).1
  rw [perC_get _ hj] at hv
  rw [h.cell hm hj, hv]

theorem LKn.there {t : TypeId} {w : World} {K : Nat} {kn : Nat → Nat → Nat} (h : LKn t w K kn) {m : Nat} (hm : m < 61) : w.there K (m * 6) 6 := by
  obtain ⟨cs, h1, h2, h3⟩ := h
  intro j hj
  refine ⟨?_, frozen_of_row _ _ _ _ _ h1⟩
  rw [cell_of_block h1, Array.getElem?_eq_getElem (by omega)]
  rfl

theorem LKn.keep {t : TypeId} {w w' : World} {K : Nat} {kn : Nat → Nat → Nat} (h : LKn t w K kn) (hb : Below w.heap.size w w') : LKn t w' K kn := by
  have hl := h.lt
  unfold LKn
  rw [hb.block K hl]
  exact h

theorem LKn.put {t : TypeId} {w : World} {K : Nat} {kn : Nat → Nat → Nat} (h : LKn t w K kn) {m : Nat} (hm : m < 61) (x : Nat → Nat) : LKn t (w.setCells K (m * 6) (perC x)) K (setP kn m x) := by
  obtain ⟨cs, h1, h2, h3⟩ := h
  have hz : m * 6 + (perC x).length ≤ cs.size := by rw [h2]; show m * 6 + 6 ≤ 366; omega
  refine ⟨_, heap_setCells (perC x) (m * 6) w cs h1 hz, by rw [setN_size]; exact h2, fun k hk v hv => ?_⟩
  rw [setN_get _ _ _ _ hz, Nat.zero_add]
  by_cases hkm : k = m
  · subst hkm
    rw [if_pos (by show k * 6 ≤ k * 6 + v ∧ k * 6 + v < k * 6 + 6; omega), show k * 6 + v - k * 6 = v from by omega, perC_get _ hv, setP_at]
  · rw [if_neg (by show ¬ (m * 6 ≤ k * 6 + v ∧ k * 6 + v < m * 6 + 6); omega), setP_ne _ _ _ hkm]
    have := h3 k hk v hv
    rwa [Nat.zero_add] at this

theorem LKn.congr {t : TypeId} {w : World} {K : Nat} {kn kn' : Nat → Nat → Nat} (h : LKn t w K kn) (he : ∀ i, i < 61 → ∀ v, v < 6 → kn i v = kn' i v) : LKn t w K kn' := by
  obtain ⟨cs, h1, h2, h3⟩ := h
  exact ⟨cs, h1, h2, fun i hi v hv => by rw [← he i hi v hv]; exact h3 i hi v hv⟩

theorem LKn.soft {t : TypeId} {w : World} {K : Nat} {kn : Nat → Nat → Nat} (h : LKn t w K kn) (i : Nat) : w.frozen? ⟨K, i, none⟩ = false := by
  obtain ⟨cs, h1, _, _⟩ := h
  exact frozen_of_row _ _ _ _ _ h1

/-- A point's sets, read off the memory. -/
def lkW (w : World) (K m v : Nat) : Nat := knW w K (m * 6 + v)

theorem LKn.read {t : TypeId} {w : World} {K : Nat} {kn : Nat → Nat → Nat} (h : LKn t w K kn) {m v : Nat} (hm : m < 61) (hv : v < 6) : lkW w K m v = kn m v := by
  unfold lkW knW
  rw [h.cell hm hv]
  simp

theorem LKn.measure {t : TypeId} {w : World} {K : Nat} {kn : Nat → Nat → Nat} (h : LKn t w K kn) {n : Nat} (hn : n ≤ 61) : sumTo (fun m => wtP (lkW w K m)) n = sumTo (fun m => wtP (kn m)) n := by
  refine sumTo_congr fun m hm => ?_
  unfold wtP
  exact sumTo_congr fun v hv => by rw [h.read (by omega) hv]

/-- All cells of rows of sets are numbers. -/
theorem lrows_one {cs : Array Value} {kn : Nat → Nat → Nat} (hz : cs.size = 366) (h : LRows cs 0 kn) : cs.all (·.oneCell') = true := by
  rw [Array.all_eq_true_iff_forall_mem]
  intro u hu
  obtain ⟨i, hi, rfl⟩ := Array.mem_iff_getElem.mp hu
  have h9 := h (i / 6) (by omega) (i % 6) (by omega)
  rw [show 0 + (i / 6 * 6 + i % 6) = i from by omega, Array.getElem?_eq_getElem hi] at h9
  injection h9 with h9
  rw [h9]
  rfl

end Go.Proofs.YtnoejapnjhogaaaGreatDoor.tr
