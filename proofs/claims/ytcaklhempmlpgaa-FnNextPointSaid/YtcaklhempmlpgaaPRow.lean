/-
  Rows of points that a call owns, and what an append and a store make of them.
-/
import Derived.Test.YtcaklhempmlpgaaRows
import Derived.Test.YtcaklhempmlpgaaCopy0
import Derived.Test.YtcaklhempmlpgaaGraph
import Derived.WalkKit
import Derived.WalkSpells
import Derived.Laws.OwnMore
namespace Go.Proofs.Ytcaklhempmlpgaa
open Go.RowKit Go.Deep
set_option linter.unusedVariables false

/-- Where the next points of a point lie: nowhere, or in a block of their own. -/
def NextV (w : World) (B : Nat) (u : Value) (next : List Int) : Prop :=
  (next = [] ∧ u = .slice none 0 0) ∨ ∃ g, u = .slice (some ⟨g, 0, none⟩) next.length next.length ∧ B ≤ g ∧ w.heap[g]? = some (.cells (next.map (Value.int .i64)).toArray 3 (0, 0))

/-- The cells of a point in a row. -/
def NdIn (w : World) (B : Nat) (xs : List Value) (k : Nat) (d : Nd) : Prop :=
  ∃ u, (xs[5 * k]? = some (.int .i64 d.op) ∧ xs[5 * k + 1]? = some (.int .i64 d.x) ∧ xs[5 * k + 2]? = some (.int .i64 d.y) ∧ xs[5 * k + 3]? = some (.int .i64 d.n) ∧ xs[5 * k + 4]? = some u) ∧ NextV w B u d.next

/-- A value is a row of points that the call owns, in blocks from B on. -/
def PRow (w : World) (B : Nat) (v : Value) (ns : List Nd) : Prop :=
  ∃ xs, w.ownsRow B 36 5 v ns.length xs ∧ ∀ k d, ns[k]? = some d → NdIn w B xs k d

theorem NextV.kept {w w' : World} {B : Nat} {u : Value} {next : List Int} {row : Option Nat} (h : NextV w B u next) (hg : w.grownBy w' row) (hr : ∀ g, row = some g → ∃ cur, w.heap[g]? = some (.cells cur 36 (0, 0))) : NextV w' B u next := by
  rcases h with h | ⟨g, h1, h2, h3⟩
  · exact .inl h
  · refine .inr ⟨g, h1, h2, ?_⟩
    rw [hg.block g (heap_lt h3) ?_]
    · exact h3
    · intro e
      obtain ⟨cur, hc⟩ := hr g e.symm
      rw [h3] at hc
      injection hc with hc
      injection hc with _ hc _
      exact absurd hc (by decide)

theorem NdIn.kept {w w' : World} {B k : Nat} {xs : List Value} {d : Nd} {row : Option Nat} (h : NdIn w B xs k d) (hg : w.grownBy w' row) (hr : ∀ g, row = some g → ∃ cur, w.heap[g]? = some (.cells cur 36 (0, 0))) : NdIn w' B xs k d := by
  obtain ⟨u, hc, hn⟩ := h
  exact ⟨u, hc, hn.kept hg hr⟩

theorem below_grown {w w' : World} (hb : Below w.heap.size w w') : w.grownBy w' none := ⟨hb.os, hb.tape, hb.output, hb.size, fun k hk _ => hb.block k hk⟩

theorem PRow.below {w w' : World} {B : Nat} {v : Value} {ns : List Nd} (h : PRow w B v ns) (hb : Below w.heap.size w w') : PRow w' B v ns := by
  obtain ⟨xs, ho, hc⟩ := h
  exact ⟨xs, ho.kept (below_grown hb) (by cases hv : v.ownBlock <;> simp), fun k d hd => (hc k d hd).kept (below_grown hb) (fun g e => by cases e)⟩

theorem PRow.alloc {w : World} {B : Nat} {v : Value} {ns : List Nd} (h : PRow w B v ns) (o : Obj) : PRow (w.alloc o) B v ns := h.below ((Below.refl _ _).alloc (Nat.le_refl _) o)

theorem ownBlock_row {w : World} {B size n : Nat} {e : TypeId} {v : Value} {xs : List Value} (h : w.ownsRow B e size v n xs) : ∀ g, v.ownBlock = some g → ∃ cur, w.heap[g]? = some (.cells cur e (0, 0)) := by
  intro g hg
  rcases h.2 with ⟨rfl, _⟩ | ⟨g', cap, cur, rfl, _, hc, _⟩
  · simp [Value.ownBlock] at hg
  · simp [Value.ownBlock] at hg
    subst hg
    exact ⟨cur, hc⟩

/-- A point more. -/
theorem PRow.snoc {w w' : World} {B : Nat} {v v' u : Value} {ns : List Nd} {d : Nd} {xs : List Value} (ho : w.ownsRow B 36 5 v ns.length xs) (hc : ∀ k d, ns[k]? = some d → NdIn w B xs k d)
    (hu : NextV w B u d.next) (hg : w.grownBy w' v.ownBlock) (ho' : w'.ownsRow B 36 5 v' (ns.length + 1) (xs ++ [.int .i64 d.op, .int .i64 d.x, .int .i64 d.y, .int .i64 d.n, u])) : PRow w' B v' (ns ++ [d]) := by
  have hl : xs.length = ns.length * 5 := ho.1
  have hr := ownBlock_row ho
  refine ⟨_, by rw [List.length_append]; exact ho', fun k e he => ?_⟩
  rcases Nat.lt_or_ge k ns.length with hk | hk
  · rw [List.getElem?_append_left hk] at he
    obtain ⟨u', ⟨c0, c1, c2, c3, c4⟩, hn⟩ := (hc k e he).kept hg hr
    refine ⟨u', ⟨?_, ?_, ?_, ?_, ?_⟩, hn⟩
    all_goals rw [List.getElem?_append_left (by omega)]
    · exact c0
    · exact c1
    · exact c2
    · exact c3
    · exact c4
  · rw [List.getElem?_append_right hk] at he
    have hk' : k = ns.length := by
      have := (List.getElem?_eq_some_iff.1 he).1
      simp at this
      omega
    subst hk'
    simp at he
    subst he
    refine ⟨u, ⟨?_, ?_, ?_, ?_, ?_⟩, hu.kept hg hr⟩
    all_goals rw [List.getElem?_append_right (by omega)]
    · rw [show 5 * ns.length - xs.length = 0 by omega]; rfl
    · rw [show 5 * ns.length + 1 - xs.length = 1 by omega]; rfl
    · rw [show 5 * ns.length + 2 - xs.length = 2 by omega]; rfl
    · rw [show 5 * ns.length + 3 - xs.length = 3 by omega]; rfl
    · rw [show 5 * ns.length + 4 - xs.length = 4 by omega]; rfl

/-- Other next points for a point of the row. -/
theorem PRow.next {w : World} {B g cap j : Nat} {u : Value} {ns : List Nd} {d : Nd} {next : List Int} (h : PRow w B (.slice (some ⟨g, 0, none⟩) ns.length cap) ns) (hd : ns[j]? = some d) (hu : NextV w B u next) :
    PRow (w.setCell ⟨g, 5 * j + 4, none⟩ u) B (.slice (some ⟨g, 0, none⟩) ns.length cap) (ns.set j { d with next := next }) ∧ w.grownBy (w.setCell ⟨g, 5 * j + 4, none⟩ u) (some g) := by
  obtain ⟨xs, ho, hc⟩ := h
  obtain ⟨ho', hg⟩ := ho.stored (5 * j + 4) u
  have hl : xs.length = ns.length * 5 := ho.1
  have hr : ∀ k, some g = some k → ∃ cur, w.heap[k]? = some (.cells cur 36 (0, 0)) := fun k hk => ownBlock_row ho k (by simpa [Value.ownBlock] using hk)
  have hj := (List.getElem?_eq_some_iff.1 hd).1
  refine ⟨⟨_, by rw [List.length_set]; exact ho', fun k e he => ?_⟩, hg⟩
  by_cases hk : j = k
  · subst hk
    rw [List.getElem?_set_self hj] at he
    injection he with he
    subst he
    obtain ⟨u', ⟨c0, c1, c2, c3, c4⟩, hn⟩ := hc j d hd
    refine ⟨u, ⟨?_, ?_, ?_, ?_, ?_⟩, hu.kept hg hr⟩
    · rw [List.getElem?_set_ne (by omega)]; exact c0
    · rw [List.getElem?_set_ne (by omega)]; exact c1
    · rw [List.getElem?_set_ne (by omega)]; exact c2
    · rw [List.getElem?_set_ne (by omega)]; exact c3
    · rw [List.getElem?_set_self (by omega)]
  · rw [List.getElem?_set_ne hk] at he
    obtain ⟨u', ⟨c0, c1, c2, c3, c4⟩, hn⟩ := (hc k e he).kept hg hr
    refine ⟨u', ⟨?_, ?_, ?_, ?_, ?_⟩, hn⟩
    all_goals rw [List.getElem?_set_ne (by omega)]
    · exact c0
    · exact c1
    · exact c2
    · exact c3
    · exact c4

/-- A row that holds something lies in a block. -/
theorem PRow.form {w : World} {B : Nat} {v : Value} {ns : List Nd} (h : PRow w B v ns) (h0 : 0 < ns.length) : ∃ g cap, v = .slice (some ⟨g, 0, none⟩) ns.length cap ∧ B ≤ g ∧ g < w.heap.size ∧ ns.length ≤ cap ∧ cap ≤ maxLen := by
  obtain ⟨xs, ho, hc⟩ := h
  rcases ho.2 with ⟨_, h1⟩ | ⟨g, cap, cur, hv, hB, hg, hn, hm, _⟩
  · omega
  · exact ⟨g, cap, hv, hB, heap_lt hg, hn, hm⟩

/-- The cells of the k-th point. -/
theorem PRow.cells {w : World} {B g cap k : Nat} {ns : List Nd} {d : Nd} (h : PRow w B (.slice (some ⟨g, 0, none⟩) ns.length cap) ns) (hd : ns[k]? = some d) :
    ∃ u, (w.cell? ⟨g, k * 5, none⟩ = some (.int .i64 d.op) ∧ w.cell? ⟨g, k * 5 + 1, none⟩ = some (.int .i64 d.x) ∧ w.cell? ⟨g, k * 5 + 2, none⟩ = some (.int .i64 d.y) ∧ w.cell? ⟨g, k * 5 + 3, none⟩ = some (.int .i64 d.n) ∧ w.cell? ⟨g, k * 5 + 4, none⟩ = some u) ∧ NextV w B u d.next := by
  obtain ⟨xs, ho, hc⟩ := h
  obtain ⟨u, ⟨c0, c1, c2, c3, c4⟩, hn⟩ := hc k d hd
  have hk := (List.getElem?_eq_some_iff.1 hd).1
  refine ⟨u, ⟨?_, ?_, ?_, ?_, ?_⟩, hn⟩
  · rw [ho.cellAt _ (by omega), Nat.mul_comm]; exact c0
  · rw [ho.cellAt _ (by omega), Nat.mul_comm]; exact c1
  · rw [ho.cellAt _ (by omega), Nat.mul_comm]; exact c2
  · rw [ho.cellAt _ (by omega), Nat.mul_comm]; exact c3
  · rw [ho.cellAt _ (by omega), Nat.mul_comm]; exact c4

theorem PRow.frozen {w : World} {B g cap : Nat} {ns : List Nd} (h : PRow w B (.slice (some ⟨g, 0, none⟩) ns.length cap) ns) (j : Nat) : w.frozen? ⟨g, j, none⟩ = false := by
  obtain ⟨xs, ho, hc⟩ := h
  exact ho.frozenAt j

theorem PRow.nil {w : World} {B : Nat} (hb : B ≤ w.heap.size) : PRow (w.alloc (.cells #[] 36)) B (.slice (some ⟨w.heap.size, 0, none⟩) 0 0) [] :=
  ⟨[], World.ownsRow_lit w #[] 0 hb (by simp [maxLen]) rfl, fun k d hd => by simp at hd⟩

theorem NextV.lit {w : World} {B : Nat} (hb : B ≤ w.heap.size) (next : List Int) : NextV (w.alloc (.cells (next.map (Value.int .i64)).toArray 3)) B (.slice (some ⟨w.heap.size, 0, none⟩) next.length next.length) next :=
  .inr ⟨w.heap.size, rfl, hb, heap_alloc_new w _⟩

theorem NextV.below {w w' : World} {B : Nat} {u : Value} {next : List Int} (h : NextV w B u next) (hb : Below w.heap.size w w') : NextV w' B u next := h.kept (below_grown hb) (fun g e => by cases e)

end Go.Proofs.Ytcaklhempmlpgaa
