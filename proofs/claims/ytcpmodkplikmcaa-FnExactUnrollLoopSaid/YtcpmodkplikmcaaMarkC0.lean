/-
  What the laws write over a program and over a list of numbers, and what stays.
-/
import Derived.Test.YtcpmodkplikmcaaMarkB
import Derived.Test.YtcpmodkplikmcaaOwD
import Derived.Test.YtcpmodkplikmcaaEqual
namespace Go.Proofs.Ytcpmodkplikmcaa
open Go.RowKit Go.Deep
set_option linter.unusedVariables false

/-- A call that writes into blocks from lo up to hi, and into new memory. -/
structure Span (lo hi : Nat) (w w' : World) : Prop where
  os : w'.os = w.os
  tape : w'.tape = w.tape
  output : w'.output = w.output
  size : w.heap.size ≤ w'.heap.size
  block : ∀ k, k < w.heap.size → k < lo ∨ hi ≤ k → w'.heap[k]? = w.heap[k]?

theorem Span.refl (lo hi : Nat) (w : World) : Span lo hi w w := ⟨rfl, rfl, rfl, Nat.le_refl _, fun _ _ _ => rfl⟩
theorem Span.of_below {lo hi : Nat} {w w' : World} (h : Below w.heap.size w w') : Span lo hi w w' := ⟨h.os, h.tape, h.output, h.size, fun k hk _ => h.block k hk⟩
theorem Span.of_mark {lo hi : Nat} {w w' : World} (h : MarkRel lo hi w w') : Span lo hi w w' := ⟨h.os, h.tape, h.output, Nat.le_of_eq h.size.symm, fun k _ hk => h.block k hk⟩
theorem Span.trans {lo hi : Nat} {a b c : World} (h : Span lo hi a b) (k : Span lo hi b c) : Span lo hi a c :=
  ⟨k.os.trans h.os, k.tape.trans h.tape, k.output.trans h.output, Nat.le_trans h.size k.size, fun i hi hd => (k.block i (Nat.lt_of_lt_of_le hi h.size) hd).trans (h.block i hi hd)⟩
theorem Span.wide {lo hi lo' hi' : Nat} {a b : World} (h : Span lo hi a b) (hl : lo' ≤ lo) (hh : hi ≤ hi') : Span lo' hi' a b := ⟨h.os, h.tape, h.output, h.size, fun k hk hd => h.block k hk (by omega)⟩
theorem Span.below {lo hi B : Nat} {a b : World} (h : Span lo hi a b) (hB : B ≤ lo) (hz : B ≤ a.heap.size) : Below B a b := ⟨h.os, h.tape, h.output, h.size, fun k hk => h.block k (by omega) (by omega)⟩

theorem RowI.span {w w' : World} {lo hi B : Nat} {v : Value} {xs : List Int} (h : RowI w B v xs) (hS : Span lo hi w w') (hd : ∀ g, v.ownBlock = some g → g < lo ∨ hi ≤ g) : RowI w' B v xs := by
  refine ⟨h.1, ?_⟩
  rcases h.2 with h | ⟨g, cap, cur, h1, h2, h3, h4⟩
  · exact .inl h
  · exact .inr ⟨g, cap, cur, h1, h2, (hS.block g (heap_lt h3) (hd g (by rw [h1]; rfl))).trans h3, h4⟩

theorem markIntS_nil (A : Option Addr) (c : Nat) (k : Int) (w : World) : Calls Try.prog 28 #[.slice A 0 c, .int .i64 k] w fun E w' => E = .returned (.int .i64 k) ∧ w = w' := by
  go_enter Try.func28, Try.ntmps28
  go_wp2_with fail
  go_loop [1, 5] (fun q i => q = .int .i64 k ∧ i = .int .i64 0) (fun _ _ => 0)
  case atStart => exact ⟨rfl, rfl⟩
  case round =>
    obtain ⟨rfl, rfl⟩ := hrel
    go_wp2_with fail
    go_ret
    exact ⟨rfl, rfl⟩

theorem heldIntS_nil (A : Option Addr) (c : Nat) (k : Int) (w : World) : Calls Try.prog 47 #[.slice A 0 c, .int .i64 k] w fun E w' => E = .returned (.int .i64 k) ∧ w = w' := by
  go_enter Try.func47, Try.ntmps47
  go_wp2_with fail
  go_loop [1, 5] (fun q i => q = .int .i64 k ∧ i = .int .i64 0) (fun _ _ => 0)
  case atStart => exact ⟨rfl, rfl⟩
  case round =>
    obtain ⟨rfl, rfl⟩ := hrel
    go_wp2_with fail
    go_ret
    exact ⟨rfl, rfl⟩

/-- A row that holds the numbers that were written over it. -/
def Marked (w : World) (v : Value) (n : Nat) (k : Int) : Prop :=
  (n = 0 ∧ ∃ A c, v = .slice A 0 c) ∨ ∃ g c, v = .slice (some ⟨g, 0, none⟩) n c ∧ n ≤ c ∧ c ≤ maxLen ∧ g < w.heap.size ∧ ∀ j, j < n → w.cell? ⟨g, j, none⟩ = some (.int .i64 (k + j))

theorem Marked.below {w w' : World} {v : Value} {n : Nat} {k : Int} (h : Marked w v n k) (hb : Below w.heap.size w w') : Marked w' v n k := by
  rcases h with h | ⟨g, c, h1, h2, h3, h4, h5⟩
  · exact .inl h
  · exact .inr ⟨g, c, h1, h2, h3, Nat.lt_of_lt_of_le h4 hb.size, fun j hj => (hb.cell h4).trans (h5 j hj)⟩

theorem markIntS_val (B : Nat) (v : Value) (xs : List Int) (k : Int) (w : World) (h : RowI w B v xs) (hn : xs.length ≤ 100000000) (hk : 0 ≤ k) (hk2 : k ≤ 100000000) :
    Calls Try.prog 28 #[v, .int .i64 k] w fun E w' => E = .returned (.int .i64 (k + xs.length)) ∧ Marked w' v xs.length k ∧ Below B w w' := by
  rcases h.2 with ⟨hv, h0⟩ | ⟨g, cap, cur, hv, h2, h3, h4, h5, h6, h7⟩
  · subst hv
    refine (markIntS_nil none 0 k w).mono ?_
    rintro E w' ⟨rfl, rfl⟩
    exact ⟨by rw [h0]; simp, .inl ⟨h0, none, 0, rfl⟩, Below.refl _ _⟩
  · have hcell : ∀ j, j < xs.length → ∃ z, w.cell? ⟨g, j, none⟩ = some (.int .i64 z) := fun j hj => ⟨xs[j], by
      have := World.ownsRow.cells h (g := g) (by rw [hv]; rfl) j (.int .i64 xs[j]) (by rw [List.getElem?_map, List.getElem?_eq_getElem hj]; rfl)
      rwa [add_block, Nat.zero_add] at this⟩
    subst hv
    refine (markIntS_row xs.length cap g k w h4 hn h5 hk hk2 hcell (fun o => frozen_of_block h3 o)).mono ?_
    rintro E w' ⟨rfl, hM, hc⟩
    exact ⟨rfl, .inr ⟨g, cap, rfl, h4, h5, by rw [hM.size]; exact heap_lt h3, hc⟩, (Span.of_mark hM).below h2 (by have := heap_lt h3; omega)⟩

theorem heldIntS_val (v : Value) (n : Nat) (k : Int) (w : World) (h : Marked w v n k) (hn : n ≤ 100000000) (hk : 0 ≤ k) (hk2 : k ≤ 100000000) :
    Calls Try.prog 47 #[v, .int .i64 k] w fun E w' => E = .returned (.int .i64 (k + n)) ∧ w = w' := by
  rcases h with ⟨h0, A, c, hv⟩ | ⟨g, c, hv, h2, h3, h4, h5⟩
  · subst hv h0
    refine (heldIntS_nil A c k w).mono ?_
    rintro E w' ⟨rfl, rfl⟩
    exact ⟨by simp, rfl⟩
  · subst hv
    exact heldIntS_row n c g k w h2 hn h3 hk hk2 h5

end Go.Proofs.Ytcpmodkplikmcaa
