/-
  Rows of numbers: owned, read, compared, written over and read again.
-/
import Derived.Test.YtekojgcjncfndaaOwB
import Derived.Deep.QuietTactic
import Derived.BigQuiet
namespace Go.Proofs.Ytekojgcjncfndaa
open Go.RowKit Go.Deep
set_option linter.unusedVariables false

/-- A value is a row of numbers that the call owns. -/
def RowI (w : World) (B : Nat) (v : Value) (xs : List Int) : Prop := w.ownsRow B 3 1 v xs.length (xs.map (Value.int .i64))

theorem RowI.below {w w' : World} {B : Nat} {v : Value} {xs : List Int} (h : RowI w B v xs) (hb : Below w.heap.size w w') : RowI w' B v xs :=
  h.kept (row := none) ⟨hb.os, hb.tape, hb.output, hb.size, fun k hk _ => hb.block k hk⟩ (by cases hv : v.ownBlock <;> simp)

theorem RowI.own {w : World} {B : Nat} {v : Value} {xs : List Int} (h : RowI w B v xs) : w.ownsRow B 3 1 v xs.length (xs.map (Value.int .i64)) := h

theorem RowI.snoc {w : World} {B : Nat} {v : Value} {xs : List Int} {x : Int} (h : w.ownsRow B 3 1 v (xs.length + 1) (xs.map (Value.int .i64) ++ [.int .i64 x])) : RowI w B v (xs ++ [x]) := by
  unfold RowI
  rw [List.length_append, List.map_append]
  exact h

theorem RowI.slice {w : World} {B : Nat} {v : Value} {xs : List Int} (h : RowI w B v xs) : ∃ A c, v = .slice A xs.length c := by
  rcases h.2 with ⟨hv, h0⟩ | ⟨g, cap, cur, hv, _⟩
  · exact ⟨none, 0, by rw [hv, h0]⟩
  · exact ⟨_, _, hv⟩

theorem RowI.mono {w : World} {B B' : Nat} {v : Value} {xs : List Int} (h : RowI w B v xs) (hb : B' ≤ B) : RowI w B' v xs := by
  refine ⟨h.1, ?_⟩
  rcases h.2 with h | ⟨g, cap, cur, h1, h2, h3⟩
  · exact .inl h
  · exact .inr ⟨g, cap, cur, h1, Nat.le_trans hb h2, h3⟩

set_option maxHeartbeats 400000 in
theorem eqIntS_any (xs : List Int) (A A' : Option Addr) (c c' : Nat) (w : World) (hR : IntsV w 0 w.heap.size xs A c) (hR' : IntsV w 0 w.heap.size xs A' c') :
    Calls Try.prog 9 #[.slice A xs.length c, .slice A' xs.length c'] w fun e w' => e = .returned (.bool true) ∧ Below w.heap.size w w' := by
  have hm := hR.2.1
  have hlc := hR.1
  unfold maxLen at hm
  go_enter Try.func9, Try.ntmps9
  go_wp2_with fail
  go_loopw [5] (fun i wr => ∃ k : Nat, k ≤ xs.length ∧ i = .int .i64 k ∧ Below w.heap.size w wr) (fun i _ => xs.length - (intOf i).toNat)
  case atStart => exact ⟨0, Nat.zero_le _, rfl, Below.refl _ _⟩
  case round =>
    obtain ⟨k, hk, rfl, hb⟩ := hrel
    by_cases hlt : k < xs.length
    · obtain ⟨b, v, rfl, -, hbb, hx, hc⟩ := (hR.below hb hb.size).elem hlt
      obtain ⟨b', v', rfl, -, hbb', hx', hc'⟩ := (hR'.below hb hb.size).elem hlt
      rw [hx] at hx'
      injection hx' with hx'
      subst hx'
      have HX := Lib.hid hx
      clear hx
      go_wp2_with fail
      go_quiet (fail)
      go_wp2_with fail
      go_roundw
      case rel => exact ⟨k + 1, by omega, by go_num, hb.trans ⟨rfl, rfl, rfl, Nat.le_refl _, fun _ _ => rfl⟩⟩
      case measure => simp [intOf]; omega
    · have hk' : k = xs.length := by omega
      subst hk'
      go_wp2_with fail
      go_ret
      exact ⟨rfl, hb⟩

/-- What writing numbers over numbers does: in blocks from lo up to hi. -/
structure MarkRel (lo hi : Nat) (w w' : World) : Prop where
  os : w'.os = w.os
  tape : w'.tape = w.tape
  output : w'.output = w.output
  size : w'.heap.size = w.heap.size
  block : ∀ k, k < lo ∨ hi ≤ k → w'.heap[k]? = w.heap[k]?
  cells : ∀ p : Addr, w'.cell? p = w.cell? p ∨ ((∃ x, w.cell? p = some (.int .i64 x)) ∧ ∃ y, w'.cell? p = some (.int .i64 y))
  frozen : ∀ p : Addr, w'.frozen? p = w.frozen? p

theorem MarkRel.refl (lo hi : Nat) (w : World) : MarkRel lo hi w w := ⟨rfl, rfl, rfl, rfl, fun _ _ => rfl, fun _ => .inl rfl, fun _ => rfl⟩

theorem MarkRel.trans {lo hi : Nat} {a b c : World} (h : MarkRel lo hi a b) (k : MarkRel lo hi b c) : MarkRel lo hi a c :=
  ⟨k.os.trans h.os, k.tape.trans h.tape, k.output.trans h.output, k.size.trans h.size, fun i hi => (k.block i hi).trans (h.block i hi), fun p => by
    rcases k.cells p with e1 | ⟨⟨x1, e1⟩, ⟨y1, f1⟩⟩
    · rcases h.cells p with e2 | ⟨⟨x2, e2⟩, ⟨y2, f2⟩⟩
      · exact .inl (e1.trans e2)
      · exact .inr ⟨⟨x2, e2⟩, ⟨y2, e1.trans f2⟩⟩
    · rcases h.cells p with e2 | ⟨⟨x2, e2⟩, ⟨y2, f2⟩⟩
      · exact .inr ⟨⟨x1, e2 ▸ e1⟩, ⟨y1, f1⟩⟩
      · exact .inr ⟨⟨x2, e2⟩, ⟨y1, f1⟩⟩, fun p => (k.frozen p).trans (h.frozen p)⟩

theorem MarkRel.wide {lo hi lo' hi' : Nat} {a b : World} (h : MarkRel lo hi a b) (hl : lo' ≤ lo) (hh : hi ≤ hi') : MarkRel lo' hi' a b :=
  ⟨h.os, h.tape, h.output, h.size, fun k hk => h.block k (by omega), h.cells, h.frozen⟩

theorem MarkRel.set {lo hi : Nat} {a b : World} (h : MarkRel lo hi a b) {p : Addr} {x : Int} (y : Int) (hl : lo ≤ p.block) (hh : p.block < hi) (hc : b.cell? p = some (.int .i64 x)) : MarkRel lo hi a (b.setCell p (.int .i64 y)) := by
  refine h.trans ⟨rfl, rfl, rfl, by simp [World.setCell], fun k hk => Below.heap_setCell _ _ _ _ (by omega), fun q => ?_, fun q => by rw [World.frozen?_setCell]⟩
  by_cases hq : p = q
  · subst hq
    exact .inr ⟨⟨x, hc⟩, ⟨y, by rw [World.cell?_setCell_same _ _ _ hc]⟩⟩
  · exact .inl (World.cell?_setCell_other _ _ _ _ hq)

theorem MarkRel.cell {lo hi : Nat} {a b : World} (h : MarkRel lo hi a b) {p : Addr} (hp : p.block < lo ∨ hi ≤ p.block) : b.cell? p = a.cell? p := World.cell?_of_block (w := a) (h.block p.block hp)

/-- Numbers written over a row of numbers. -/
theorem markIntS_row (n c g : Nat) (k : Int) (w : World) (hn : n ≤ c) (hn2 : n ≤ 100000000) (hc : c ≤ maxLen) (hk : 0 ≤ k) (hk2 : k ≤ 100000000) (hcell : ∀ j, j < n → ∃ v, w.cell? ⟨g, j, none⟩ = some (.int .i64 v)) (hf : ∀ o, w.frozen? ⟨g, o, none⟩ = false) :
    Calls Try.prog 10 #[.slice (some ⟨g, 0, none⟩) n c, .int .i64 k] w fun E w' => E = .returned (.int .i64 (k + n)) ∧ MarkRel g (g + 1) w w' ∧ ∀ j, j < n → w'.cell? ⟨g, j, none⟩ = some (.int .i64 (k + j)) := by
  unfold maxLen at hc
  go_enter Try.func10, Try.ntmps10
  go_wp2_with fail
  go_loopw [1, 5] (fun q i wr => ∃ j : Nat, j ≤ n ∧ i = .int .i64 j ∧ q = .int .i64 (k + j) ∧ MarkRel g (g + 1) w wr ∧ Hid (∀ i, i < j → wr.cell? ⟨g, i, none⟩ = some (.int .i64 (k + i)))) (fun _ i _ => n - (intOf i).toNat)
  case atStart => exact ⟨0, Nat.zero_le _, rfl, by simp, MarkRel.refl _ _ _, fun i hi => absurd hi (by omega)⟩
  case round =>
    obtain ⟨j, hj, rfl, rfl, hM, hin⟩ := hrel
    by_cases hlt : j < n
    · have hcj : ∃ v, wr.cell? ⟨g, j, none⟩ = some (.int .i64 v) := by
        obtain ⟨v, hv⟩ := hcell j hlt
        rcases hM.cells ⟨g, j, none⟩ with e | ⟨_, y, e⟩
        · exact ⟨v, e.trans hv⟩
        · exact ⟨y, e⟩
      obtain ⟨v, hv⟩ := hcj
      have hfr : wr.frozen? ⟨g, j, none⟩ = false := (hM.frozen _).trans (hf j)
      have hM2 := Lib.hid (hM.set (k + j) (by simp) (by simp) hv)
      have hin2 : Hid (∀ i, i < j + 1 → (wr.setCell ⟨g, j, none⟩ (.int .i64 (k + j))).cell? ⟨g, i, none⟩ = some (.int .i64 (k + i))) := by
        intro i hi
        by_cases e : i = j
        · subst e
          exact World.cell?_setCell_same _ _ _ hv
        · rw [World.cell?_setCell_other _ _ _ _ (fun e2 => by injection e2 with _ e2; omega)]
          exact hin.out i (by omega)
      clear hin hcell hf hM
      go_wp2_with fail
      go_roundw
      case rel => exact ⟨j + 1, by omega, by go_num, by go_num, hM2.out, hin2⟩
      case measure => simp [intOf]; omega
    · have hj' : j = n := by omega
      subst hj'
      clear hcell hf
      go_wp2_with fail
      go_ret
      exact ⟨rfl, hM, hin.out⟩

/-- The numbers are read again. -/
theorem heldIntS_row (n c g : Nat) (k : Int) (w : World) (hn : n ≤ c) (hn2 : n ≤ 100000000) (hc : c ≤ maxLen) (hk : 0 ≤ k) (hk2 : k ≤ 100000000) (hcell : ∀ j, j < n → w.cell? ⟨g, j, none⟩ = some (.int .i64 (k + j))) :
    Calls Try.prog 11 #[.slice (some ⟨g, 0, none⟩) n c, .int .i64 k] w fun E w' => E = .returned (.int .i64 (k + n)) ∧ w = w' := by
  unfold maxLen at hc
  have HC := Lib.hid hcell
  clear hcell
  go_enter Try.func11, Try.ntmps11
  go_wp2_with fail
  go_loop [1, 5] (fun q i => ∃ j : Nat, j ≤ n ∧ i = .int .i64 j ∧ q = .int .i64 (k + j)) (fun _ i => n - (intOf i).toNat)
  case atStart => exact ⟨0, Nat.zero_le _, rfl, by simp⟩
  case round =>
    obtain ⟨j, hj, rfl, rfl⟩ := hrel
    by_cases hlt : j < n
    · have hcj := HC.out j hlt
      go_wp2_with fail
      go_round
      case rel => exact ⟨j + 1, by omega, by go_num, by go_num⟩
      case measure => simp [intOf]; omega
    · have hj' : j = n := by omega
      subst hj'
      go_wp2_with fail
      go_ret
      exact ⟨rfl, rfl⟩

theorem Span.of_mark {lo hi : Nat} {w w' : World} (h : MarkRel lo hi w w') : Span lo hi w w' := ⟨h.os, h.tape, h.output, Nat.le_of_eq h.size.symm, fun k _ hk => h.block k hk⟩

theorem RowI.lt {w : World} {B : Nat} {v : Value} {xs : List Int} (h : RowI w B v xs) : ∀ g, v.ownBlock = some g → B ≤ g ∧ g < w.heap.size := World.ownsRow.lt h

/-- A row of numbers reads as a list. -/
theorem RowI.ints {w : World} {B : Nat} {v : Value} {xs : List Int} (h : RowI w B v xs) : ∃ A c, v = .slice A xs.length c ∧ IntsV w 0 w.heap.size xs A c := by
  rcases h.2 with ⟨hv, h0⟩ | ⟨g, cap, cur, hv, h2, h3, h4, h5, h6, h7⟩
  · have : xs = [] := List.eq_nil_of_length_eq_zero h0
    subst this
    exact ⟨none, 0, hv, by simp, by simp [maxLen], fun h => absurd h (by simp)⟩
  · refine ⟨_, _, hv, h4, h5, fun h0 => ⟨_, rfl, Nat.zero_le _, heap_lt h3, fun j u hj => ?_⟩⟩
    exact World.ownsRow.cells h (g := g) (by rw [hv]; rfl) j _ (by rw [List.getElem?_map, hj]; rfl)

theorem RowI.keep {w w' : World} {B : Nat} {v : Value} {xs : List Int} (h : RowI w B v xs) (hk : ∀ g, v.ownBlock = some g → w'.heap[g]? = w.heap[g]?) : RowI w' B v xs := by
  refine ⟨h.1, ?_⟩
  rcases h.2 with h | ⟨g, cap, cur, h1, h2, h3, h4⟩
  · exact .inl h
  · exact .inr ⟨g, cap, cur, h1, h2, (hk g (by rw [h1]; rfl)).trans h3, h4⟩

theorem RowI.intsV {w : World} {B n c : Nat} {A : Option Addr} {xs : List Int} (h : RowI w B (.slice A n c) xs) : IntsV w 0 w.heap.size xs A c := by
  obtain ⟨A', c', he, hI⟩ := h.ints
  injection he with e1 _ e2
  subst e1 e2
  exact hI

theorem markIntS_nil (A : Option Addr) (c : Nat) (k : Int) (w : World) : Calls Try.prog 10 #[.slice A 0 c, .int .i64 k] w fun E w' => E = .returned (.int .i64 k) ∧ w = w' := by
  go_enter Try.func10, Try.ntmps10
  go_wp2_with fail
  go_loop [1, 5] (fun q i => q = .int .i64 k ∧ i = .int .i64 0) (fun _ _ => 0)
  case atStart => exact ⟨rfl, rfl⟩
  case round =>
    obtain ⟨rfl, rfl⟩ := hrel
    go_wp2_with fail
    go_ret
    exact ⟨rfl, rfl⟩

theorem heldIntS_nil (A : Option Addr) (c : Nat) (k : Int) (w : World) : Calls Try.prog 11 #[.slice A 0 c, .int .i64 k] w fun E w' => E = .returned (.int .i64 k) ∧ w = w' := by
  go_enter Try.func11, Try.ntmps11
  go_wp2_with fail
  go_loop [1, 5] (fun q i => q = .int .i64 k ∧ i = .int .i64 0) (fun _ _ => 0)
  case atStart => exact ⟨rfl, rfl⟩
  case round =>
    obtain ⟨rfl, rfl⟩ := hrel
    go_wp2_with fail
    go_ret
    exact ⟨rfl, rfl⟩

/-- A row that holds the numbers that were written over it. -/
def Marked (w : World) (v : Value) (n : Nat) (k : Int) : Prop :=
  (n = 0 ∧ ∃ A c, v = .slice A 0 c) ∨ ∃ g c, v = .slice (some ⟨g, 0, none⟩) n c ∧ n ≤ c ∧ c ≤ maxLen ∧ g < w.heap.size ∧ ∀ j, j < n → w.cell? ⟨g, j, none⟩ = some (.int .i64 (k + j))

theorem Marked.below {w w' : World} {v : Value} {n : Nat} {k : Int} (h : Marked w v n k) (hb : Below w.heap.size w w') : Marked w' v n k := by
  rcases h with h | ⟨g, c, h1, h2, h3, h4, h5⟩
  · exact .inl h
  · exact .inr ⟨g, c, h1, h2, h3, Nat.lt_of_lt_of_le h4 hb.size, fun j hj => (hb.cell h4).trans (h5 j hj)⟩

theorem markIntS_val (B : Nat) (v : Value) (xs : List Int) (k : Int) (w : World) (h : RowI w B v xs) (hn : xs.length ≤ 100000000) (hk : 0 ≤ k) (hk2 : k ≤ 100000000) :
    Calls Try.prog 10 #[v, .int .i64 k] w fun E w' => E = .returned (.int .i64 (k + xs.length)) ∧ Marked w' v xs.length k ∧ Below B w w' := by
  rcases h.2 with ⟨hv, h0⟩ | ⟨g, cap, cur, hv, h2, h3, h4, h5, h6, h7⟩
  · subst hv
    refine (markIntS_nil none 0 k w).mono ?_
    rintro E w' ⟨rfl, rfl⟩
    exact ⟨by rw [h0]; simp, .inl ⟨h0, none, 0, rfl⟩, Below.refl _ _⟩
  · have hcell : ∀ j, j < xs.length → ∃ z, w.cell? ⟨g, j, none⟩ = some (.int .i64 z) := fun j hj => ⟨xs[j], by
      have := World.ownsRow.cells h (g := g) (by rw [hv]; rfl) j (.int .i64 xs[j]) (by rw [List.getElem?_map, List.getElem?_eq_getElem hj]; rfl)
      rwa [add_block, Nat.zero_add] at this⟩
    subst hv
    refine (markIntS_row xs.length cap g k w h4 hn h5 hk hk2 hcell (fun o => frozen_of_block h3 o)).mono ?_
    rintro E w' ⟨rfl, hM, hc⟩
    exact ⟨rfl, .inr ⟨g, cap, rfl, h4, h5, by rw [hM.size]; exact heap_lt h3, hc⟩, (Span.of_mark hM).below h2 (by have := heap_lt h3; omega)⟩

theorem heldIntS_val (v : Value) (n : Nat) (k : Int) (w : World) (h : Marked w v n k) (hn : n ≤ 100000000) (hk : 0 ≤ k) (hk2 : k ≤ 100000000) :
    Calls Try.prog 11 #[v, .int .i64 k] w fun E w' => E = .returned (.int .i64 (k + n)) ∧ w = w' := by
  rcases h with ⟨h0, A, c, hv⟩ | ⟨g, c, hv, h2, h3, h4, h5⟩
  · subst hv h0
    refine (heldIntS_nil A c k w).mono ?_
    rintro E w' ⟨rfl, rfl⟩
    exact ⟨by simp, rfl⟩
  · subst hv
    exact heldIntS_row n c g k w h2 hn h3 hk hk2 h5

end Go.Proofs.Ytekojgcjncfndaa
