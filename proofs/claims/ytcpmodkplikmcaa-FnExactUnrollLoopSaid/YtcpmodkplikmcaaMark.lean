/-
  What the laws write over an argument, and over a result, and how they read it again.
-/
import Derived.Test.YtcpmodkplikmcaaCopyS
namespace Go.Proofs.Ytcpmodkplikmcaa
open Go.RowKit Go.Deep
set_option linter.unusedVariables false

theorem Soft.at_ {lo : Nat} {w : World} (h : Soft lo w) (p : Addr) (hp : lo ≤ p.block) : w.frozen? p = false := h p.block p.off hp

/-- What writing numbers over numbers does: in blocks from lo up to hi. -/
structure MarkRel (lo hi : Nat) (w w' : World) : Prop where
  os : w'.os = w.os
  tape : w'.tape = w.tape
  output : w'.output = w.output
  size : w'.heap.size = w.heap.size
  block : ∀ k, k < lo ∨ hi ≤ k → w'.heap[k]? = w.heap[k]?
  cells : ∀ p : Addr, w'.cell? p = w.cell? p ∨ ((∃ x, w.cell? p = some (.int .i64 x)) ∧ ∃ y, w'.cell? p = some (.int .i64 y))
  frozen : ∀ p : Addr, w'.frozen? p = w.frozen? p

theorem MarkRel.refl (lo hi : Nat) (w : World) : MarkRel lo hi w w := ⟨rfl, rfl, rfl, rfl, fun _ _ => rfl, fun _ => .inl rfl, fun _ => rfl⟩

theorem MarkRel.trans {lo hi : Nat} {a b c : World} (h : MarkRel lo hi a b) (k : MarkRel lo hi b c) : MarkRel lo hi a c :=
  ⟨k.os.trans h.os, k.tape.trans h.tape, k.output.trans h.output, k.size.trans h.size, fun i hi => (k.block i hi).trans (h.block i hi), fun p => by
    rcases k.cells p with e1 | ⟨⟨x1, e1⟩, ⟨y1, f1⟩⟩
    · rcases h.cells p with e2 | ⟨⟨x2, e2⟩, ⟨y2, f2⟩⟩
      · exact .inl (e1.trans e2)
      · exact .inr ⟨⟨x2, e2⟩, ⟨y2, e1.trans f2⟩⟩
    · rcases h.cells p with e2 | ⟨⟨x2, e2⟩, ⟨y2, f2⟩⟩
      · exact .inr ⟨⟨x1, e2 ▸ e1⟩, ⟨y1, f1⟩⟩
      · exact .inr ⟨⟨x2, e2⟩, ⟨y1, f1⟩⟩, fun p => (k.frozen p).trans (h.frozen p)⟩

theorem MarkRel.wide {lo hi lo' hi' : Nat} {a b : World} (h : MarkRel lo hi a b) (hl : lo' ≤ lo) (hh : hi ≤ hi') : MarkRel lo' hi' a b :=
  ⟨h.os, h.tape, h.output, h.size, fun k hk => h.block k (by omega), h.cells, h.frozen⟩

theorem MarkRel.set {lo hi : Nat} {a b : World} (h : MarkRel lo hi a b) {p : Addr} {x : Int} (y : Int) (hl : lo ≤ p.block) (hh : p.block < hi) (hc : b.cell? p = some (.int .i64 x)) : MarkRel lo hi a (b.setCell p (.int .i64 y)) := by
  refine h.trans ⟨rfl, rfl, rfl, by simp [World.setCell], fun k hk => Below.heap_setCell _ _ _ _ (by omega), fun q => ?_, fun q => by rw [World.frozen?_setCell]⟩
  by_cases hq : p = q
  · subst hq
    exact .inr ⟨⟨x, hc⟩, ⟨y, by rw [World.cell?_setCell_same _ _ _ hc]⟩⟩
  · exact .inl (World.cell?_setCell_other _ _ _ _ hq)

theorem MarkRel.soft {lo hi l : Nat} {a b : World} (h : MarkRel lo hi a b) (hs : Soft l a) : Soft l b := fun k o hk => (h.frozen _).trans (hs k o hk)

theorem MarkRel.cell {lo hi : Nat} {a b : World} (h : MarkRel lo hi a b) {p : Addr} (hp : p.block < lo ∨ hi ≤ p.block) : b.cell? p = a.cell? p := World.cell?_of_block (w := a) (h.block p.block hp)

/-- No cell of the blocks from lo up to hi is frozen. -/
def SoftIn (lo hi : Nat) (w : World) : Prop := ∀ p : Addr, lo ≤ p.block → p.block < hi → w.frozen? p = false

theorem MarkRel.softIn {lo hi l h : Nat} {a b : World} (hM : MarkRel lo hi a b) (hs : SoftIn l h a) : SoftIn l h b := fun p h1 h2 => (hM.frozen _).trans (hs p h1 h2)

/-- Numbers written over a row of numbers. -/
theorem markIntS_row (n c g : Nat) (k : Int) (w : World) (hn : n ≤ c) (hn2 : n ≤ 100000000) (hc : c ≤ maxLen) (hk : 0 ≤ k) (hk2 : k ≤ 100000000) (hcell : ∀ j, j < n → ∃ v, w.cell? ⟨g, j, none⟩ = some (.int .i64 v)) (hf : ∀ o, w.frozen? ⟨g, o, none⟩ = false) :
    Calls Try.prog 28 #[.slice (some ⟨g, 0, none⟩) n c, .int .i64 k] w fun E w' => E = .returned (.int .i64 (k + n)) ∧ MarkRel g (g + 1) w w' ∧ ∀ j, j < n → w'.cell? ⟨g, j, none⟩ = some (.int .i64 (k + j)) := by
  unfold maxLen at hc
  go_enter Try.func28, Try.ntmps28
  go_wp2_with fail
  go_loopw [1, 5] (fun q i wr => ∃ j : Nat, j ≤ n ∧ i = .int .i64 j ∧ q = .int .i64 (k + j) ∧ MarkRel g (g + 1) w wr ∧ Hid (∀ i, i < j → wr.cell? ⟨g, i, none⟩ = some (.int .i64 (k + i)))) (fun _ i _ => n - (intOf i).toNat)
  case atStart => exact ⟨0, Nat.zero_le _, rfl, by simp, MarkRel.refl _ _ _, fun i hi => absurd hi (by omega)⟩
  case round =>
    obtain ⟨j, hj, rfl, rfl, hM, hin⟩ := hrel
    by_cases hlt : j < n
    · have hcj : ∃ v, wr.cell? ⟨g, j, none⟩ = some (.int .i64 v) := by
        obtain ⟨v, hv⟩ := hcell j hlt
        rcases hM.cells ⟨g, j, none⟩ with e | ⟨_, y, e⟩
        · exact ⟨v, e.trans hv⟩
        · exact ⟨y, e⟩
      obtain ⟨v, hv⟩ := hcj
      have hfr : wr.frozen? ⟨g, j, none⟩ = false := (hM.frozen _).trans (hf j)
      have hM2 := Lib.hid (hM.set (k + j) (by simp) (by simp) hv)
      have hin2 : Hid (∀ i, i < j + 1 → (wr.setCell ⟨g, j, none⟩ (.int .i64 (k + j))).cell? ⟨g, i, none⟩ = some (.int .i64 (k + i))) := by
        intro i hi
        by_cases e : i = j
        · subst e
          exact World.cell?_setCell_same _ _ _ hv
        · rw [World.cell?_setCell_other _ _ _ _ (fun e2 => by injection e2 with _ e2; omega)]
          exact hin.out i (by omega)
      clear hin hcell hf hM
      go_wp2_with fail
      go_roundw
      case rel => exact ⟨j + 1, by omega, by go_num, by go_num, hM2.out, hin2⟩
      case measure => simp [intOf]; omega
    · have hj' : j = n := by omega
      subst hj'
      clear hcell hf
      go_wp2_with fail
      go_ret
      exact ⟨rfl, hM, hin.out⟩

/-- The numbers are read again. -/
theorem heldIntS_row (n c g : Nat) (k : Int) (w : World) (hn : n ≤ c) (hn2 : n ≤ 100000000) (hc : c ≤ maxLen) (hk : 0 ≤ k) (hk2 : k ≤ 100000000) (hcell : ∀ j, j < n → w.cell? ⟨g, j, none⟩ = some (.int .i64 (k + j))) :
    Calls Try.prog 47 #[.slice (some ⟨g, 0, none⟩) n c, .int .i64 k] w fun E w' => E = .returned (.int .i64 (k + n)) ∧ w = w' := by
  unfold maxLen at hc
  have HC := Lib.hid hcell
  clear hcell
  go_enter Try.func47, Try.ntmps47
  go_wp2_with fail
  go_loop [1, 5] (fun q i => ∃ j : Nat, j ≤ n ∧ i = .int .i64 j ∧ q = .int .i64 (k + j)) (fun _ i => n - (intOf i).toNat)
  case atStart => exact ⟨0, Nat.zero_le _, rfl, by simp⟩
  case round =>
    obtain ⟨j, hj, rfl, rfl⟩ := hrel
    by_cases hlt : j < n
    · have hcj := HC.out j hlt
      go_wp2_with fail
      go_round
      case rel => exact ⟨j + 1, by omega, by go_num, by go_num⟩
      case measure => simp [intOf]; omega
    · have hj' : j = n := by omega
      subst hj'
      go_wp2_with fail
      go_ret
      exact ⟨rfl, rfl⟩

end Go.Proofs.Ytcpmodkplikmcaa
