/-
  Rows of numbers that a call owns.
-/
import Derived.Test.YtfkhgdbnjcdlmaaZCopy0
namespace Go.Proofs.Ytfkhgdbnjcdlmaa
open Go.RowKit Go.Deep
set_option linter.unusedVariables false

/-- A value is a row of numbers that the call owns. -/
def RowI (w : World) (B : Nat) (v : Value) (xs : List Int) : Prop := w.ownsRow B 3 1 v xs.length (xs.map (Value.int .i64))

theorem RowI.below {w w' : World} {B : Nat} {v : Value} {xs : List Int} (h : RowI w B v xs) (hb : Below w.heap.size w w') : RowI w' B v xs :=
  h.kept (row := none) ⟨hb.os, hb.tape, hb.output, hb.size, fun k hk _ => hb.block k hk⟩ (by cases hv : v.ownBlock <;> simp)

theorem RowI.own {w : World} {B : Nat} {v : Value} {xs : List Int} (h : RowI w B v xs) : w.ownsRow B 3 1 v xs.length (xs.map (Value.int .i64)) := h

theorem RowI.snoc {w : World} {B : Nat} {v : Value} {xs : List Int} {x : Int} (h : w.ownsRow B 3 1 v (xs.length + 1) (xs.map (Value.int .i64) ++ [.int .i64 x])) : RowI w B v (xs ++ [x]) := by
  unfold RowI
  rw [List.length_append, List.map_append]
  exact h

theorem RowI.slice {w : World} {B : Nat} {v : Value} {xs : List Int} (h : RowI w B v xs) : ∃ A c, v = .slice A xs.length c := by
  rcases h.2 with ⟨hv, h0⟩ | ⟨g, cap, cur, hv, _⟩
  · exact ⟨none, 0, by rw [hv, h0]⟩
  · exact ⟨_, _, hv⟩

theorem RowI.mono {w : World} {B B' : Nat} {v : Value} {xs : List Int} (h : RowI w B v xs) (hb : B' ≤ B) : RowI w B' v xs := by
  refine ⟨h.1, ?_⟩
  rcases h.2 with h | ⟨g, cap, cur, h1, h2, h3⟩
  · exact .inl h
  · exact .inr ⟨g, cap, cur, h1, Nat.le_trans hb h2, h3⟩

theorem news1 {w : World} {H : Nat} {cs : Array Value} {t : TypeId} {l : List Value} (hH : w.heap.size = H) (hl : l.toArray = cs) : ∀ j u, l[j]? = some u → (w.alloc (.cells cs t)).cell? ((⟨H, 0, none⟩ : Addr).add j) = some u := by
  subst hH hl
  intro j u hj
  rw [add_block, Nat.zero_add, cell_of_block (heap_alloc_new _ _)]
  simpa using hj

end Go.Proofs.Ytfkhgdbnjcdlmaa
