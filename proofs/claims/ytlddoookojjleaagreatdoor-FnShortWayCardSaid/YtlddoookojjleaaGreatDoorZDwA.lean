/-
  What a call owns, and what it leaves alone.
  The model's source of draws: a row of bytes, and how many were taken.
  The model's draws of a number of a list, and a new source.
-/
import Derived.Test.YtlddoookojjleaaGreatDoorZMem
import Derived.Deep.OwnRows
import Derived.Deep.AppendLies
import Derived.Laws.OwnMore
import Derived.Deep.QuietTactic
import Derived.BigQuiet
import Derived.IntWalk
namespace Go.Proofs.YtlddoookojjleaaGreatDoor
open Go.RowKit Go.Deep
set_option linter.unusedVariables false

/-! ### What a call owns -/
theorem own_keep {w w' : World} {B size n : Nat} {e : TypeId} {v : Value} {xs : List Value} (h : w.ownsRow B e size v n xs) (hk : ∀ g, v.ownBlock = some g → w'.heap[g]? = w.heap[g]?) : w'.ownsRow B e size v n xs := by
  refine ⟨h.1, ?_⟩
  rcases h.2 with h | ⟨g, cap, cur, h1, h2, h3, h4⟩
  · exact .inl h
  · exact .inr ⟨g, cap, cur, h1, h2, (hk g (by rw [h1]; rfl)).trans h3, h4⟩

theorem own_below {w w' : World} {B size n : Nat} {e : TypeId} {v : Value} {xs : List Value} (h : w.ownsRow B e size v n xs) (hb : Below w.heap.size w w') : w'.ownsRow B e size v n xs :=
  own_keep h fun g hg => hb.block g (h.lt g hg).2

theorem own_mono {w : World} {B B' size n : Nat} {e : TypeId} {v : Value} {xs : List Value} (h : w.ownsRow B e size v n xs) (hb : B' ≤ B) : w.ownsRow B' e size v n xs := by
  refine ⟨h.1, ?_⟩
  rcases h.2 with h | ⟨g, cap, cur, h1, h2, h3⟩
  · exact .inl h
  · exact .inr ⟨g, cap, cur, h1, Nat.le_trans hb h2, h3⟩

theorem own_form {w : World} {B size n : Nat} {e : TypeId} {v : Value} {xs : List Value} (h : w.ownsRow B e size v n xs) : ∃ A c, v = .slice A n c ∧ n ≤ c ∧ c ≤ maxLen ∧ (0 < n → ∃ g, A = some ⟨g, 0, none⟩ ∧ B ≤ g ∧ g < w.heap.size) := by
  rcases h.2 with ⟨h1, h2⟩ | ⟨g, cap, cur, h1, h2, h3, h4, h5, _⟩
  · exact ⟨none, 0, by rw [h1, h2], by omega, by simp [maxLen], fun h => by omega⟩
  · exact ⟨_, _, h1, h4, h5, fun _ => ⟨g, rfl, h2, heap_lt h3⟩⟩

theorem _root_.Go.World.ownsRow.stored' {w : World} {base g n m cap size : Nat} {e : TypeId} {xs : List Value} (h : w.ownsRow base e size (.slice (some ⟨g, 0, none⟩) n cap) m xs) (hn : m = n) (j : Nat) (u : Value) :
    (w.setCell ⟨g, j, none⟩ u).ownsRow base e size (.slice (some ⟨g, 0, none⟩) n cap) n (xs.set j u) := by
  subst hn
  exact (h.stored j u).1

/-- Only block g changed. -/
structure One (g : Nat) (w w' : World) : Prop where
  os : w'.os = w.os
  tape : w'.tape = w.tape
  output : w'.output = w.output
  size : w'.heap.size = w.heap.size
  block : ∀ k, k ≠ g → w'.heap[k]? = w.heap[k]?
  frozen : ∀ p : Addr, w'.frozen? p = w.frozen? p

theorem One.refl (g : Nat) (w : World) : One g w w := ⟨rfl, rfl, rfl, rfl, fun _ _ => rfl, fun _ => rfl⟩

theorem One.set {g : Nat} {a b : World} (h : One g a b) (o : Nat) (x : Value) : One g a (b.setCell ⟨g, o, none⟩ x) :=
  ⟨h.os, h.tape, h.output, by rw [← h.size]; simp [World.setCell], fun k hk => (heap_setCell_other _ _ _ _ (fun e => hk e)).trans (h.block k hk), fun p => by rw [World.frozen?_setCell]; exact h.frozen p⟩

theorem One.below {g B : Nat} {a b : World} (h : One g a b) (hB : B ≤ g) : Below B a b := ⟨h.os, h.tape, h.output, Nat.le_of_eq h.size.symm, fun k hk => h.block k (by omega)⟩


/-- Of what was, block R changed at most. -/
structure But (R : Nat) (w w' : World) : Prop where
  os : w'.os = w.os
  tape : w'.tape = w.tape
  output : w'.output = w.output
  size : w.heap.size ≤ w'.heap.size
  block : ∀ k, k < w.heap.size → k ≠ R → w'.heap[k]? = w.heap[k]?

theorem But.trans {R : Nat} {a b c : World} (h : But R a b) (k : But R b c) : But R a c :=
  ⟨k.os.trans h.os, k.tape.trans h.tape, k.output.trans h.output, Nat.le_trans h.size k.size, fun i hi hn => (k.block i (Nat.lt_of_lt_of_le hi h.size) hn).trans (h.block i hi hn)⟩

theorem But.of_below {R B : Nat} {a b : World} (h : Below B a b) (hB : a.heap.size ≤ B) : But R a b := ⟨h.os, h.tape, h.output, h.size, fun k hk _ => h.block k (by omega)⟩

theorem But.of_one {R : Nat} {a b : World} (h : One R a b) : But R a b := ⟨h.os, h.tape, h.output, Nat.le_of_eq h.size.symm, fun k _ hn => h.block k hn⟩

theorem But.drew {R : Nat} {a b : World} (h : But R a b) : But R a b.drew := ⟨h.os, h.tape, h.output, h.size, h.block⟩

theorem But.setCell {R : Nat} {a b : World} (h : But R a b) {g o : Nat} (hg : a.heap.size ≤ g) (x : Value) : But R a (b.setCell ⟨g, o, none⟩ x) :=
  ⟨h.os, h.tape, h.output, by simpa [World.setCell] using h.size, fun k hk hn => (Below.heap_setCell b ⟨g, o, none⟩ x k (by show k ≠ g; omega)).trans (h.block k hk hn)⟩

theorem But.grown {R : Nat} {a b c : World} {row : Option Nat} (h : But R a b) (hg : b.grownBy c row) (hr : ∀ k, row = some k → a.heap.size ≤ k) : But R a c :=
  ⟨hg.os.trans h.os, hg.tape.trans h.tape, hg.output.trans h.output, Nat.le_trans h.size hg.size, fun k hk hn => (hg.block k (Nat.lt_of_lt_of_le hk h.size) (fun e => by have := hr k e.symm; omega)).trans (h.block k hk hn)⟩

theorem But.below {R : Nat} {a b : World} (h : But R a b) (hR : R ≤ a.heap.size) : Below R a b := ⟨h.os, h.tape, h.output, h.size, fun k hk => h.block k (by omega) (by omega)⟩

/-- What bending leaves. -/

theorem RowI.lt {w : World} {B : Nat} {v : Value} {xs : List Int} (h : RowI w B v xs) : ∀ g, v.ownBlock = some g → B ≤ g ∧ g < w.heap.size := World.ownsRow.lt h

/-- A row of numbers reads as a list. -/
theorem RowI.ints {w : World} {B : Nat} {v : Value} {xs : List Int} (h : RowI w B v xs) : ∃ A c, v = .slice A xs.length c ∧ IntsV w 0 w.heap.size xs A c := by
  rcases h.2 with ⟨hv, h0⟩ | ⟨g, cap, cur, hv, h2, h3, h4, h5, h6, h7⟩
  · have : xs = [] := List.eq_nil_of_length_eq_zero h0
    subst this
    exact ⟨none, 0, hv, by simp, by simp [maxLen], fun h => absurd h (by simp)⟩
  · refine ⟨_, _, hv, h4, h5, fun h0 => ⟨_, rfl, Nat.zero_le _, heap_lt h3, fun j u hj => ?_⟩⟩
    exact World.ownsRow.cells h (g := g) (by rw [hv]; rfl) j _ (by rw [List.getElem?_map, hj]; rfl)

theorem RowI.keep {w w' : World} {B : Nat} {v : Value} {xs : List Int} (h : RowI w B v xs) (hk : ∀ g, v.ownBlock = some g → w'.heap[g]? = w.heap[g]?) : RowI w' B v xs := by
  refine ⟨h.1, ?_⟩
  rcases h.2 with h | ⟨g, cap, cur, h1, h2, h3, h4⟩
  · exact .inl h
  · exact .inr ⟨g, cap, cur, h1, h2, (hk g (by rw [h1]; rfl)).trans h3, h4⟩

theorem RowI.intsV {w : World} {B n c : Nat} {A : Option Addr} {xs : List Int} (h : RowI w B (.slice A n c) xs) : IntsV w 0 w.heap.size xs A c := by
  obtain ⟨A', c', he, hI⟩ := h.ints
  injection he with e1 _ e2
  subst e1 e2
  exact hI

end Go.Proofs.YtlddoookojjleaaGreatDoor

namespace Go.Proofs.YtlddoookojjleaaGreatDoor
open Go.RowKit Go.Deep
set_option linter.unusedVariables false

/-- A slice reads as bytes, in blocks below hi. -/
def ByteV (w : World) (hi n : Nat) (A : Option Addr) (c : Nat) : Prop :=
  n ≤ c ∧ c ≤ maxLen ∧ (0 < n → ∃ b, A = some b ∧ b.block < hi ∧ ∀ j, j < n → ∃ v : Int, w.cell? (b.add j) = some (.int .u8 v) ∧ 0 ≤ v ∧ v ≤ 255)

theorem ByteV.below {w w' : World} {hi hi' n : Nat} {A : Option Addr} {c : Nat} (h : ByteV w hi n A c) (hb : Below hi w w') (hhi : hi ≤ hi') : ByteV w' hi' n A c :=
  ⟨h.1, h.2.1, fun hn => by
    obtain ⟨b, rfl, hbb, hc⟩ := h.2.2 hn
    exact ⟨b, rfl, by omega, fun j hj => by
      obtain ⟨v, hv, h0, h1⟩ := hc j hj
      exact ⟨v, (hb.cell (by rw [block_add]; exact hbb)).trans hv, h0, h1⟩⟩⟩

/-- A source of draws in block R, of which at most P were taken. -/
def SrcV (w : World) (R P : Nat) : Prop := ∃ (n c : Nat) (A : Option Addr) (p : Nat), w.heap[R]? = some (.cells #[.slice A n c, .int .i64 (p : Int)] 82 (0, 0)) ∧ ByteV w R n A c ∧ p ≤ P

theorem SrcV.lt {w : World} {R P : Nat} (h : SrcV w R P) : R < w.heap.size := by
  obtain ⟨n, c, A, p, hR, _⟩ := h
  exact heap_lt hR

theorem SrcV.below {w w' : World} {R P : Nat} (h : SrcV w R P) (hb : Below w.heap.size w w') : SrcV w' R P := by
  have hl := h.lt
  obtain ⟨n, c, A, p, hR, hB, hp⟩ := h
  exact ⟨n, c, A, p, (hb.block R hl).trans hR, hB.below (hb.mono (by omega)) (Nat.le_refl _), hp⟩

theorem SrcV.more {w : World} {R P P' : Nat} (h : SrcV w R P) (hp : P ≤ P') : SrcV w R P' := by
  obtain ⟨n, c, A, p, hR, hB, hp'⟩ := h
  exact ⟨n, c, A, p, hR, hB, by omega⟩

/-- Another block changed. -/
theorem SrcV.one {w w' : World} {R P g : Nat} (h : SrcV w R P) (hO : One g w w') (hg : R < g) : SrcV w' R P := by
  obtain ⟨n, c, A, p, hR, hB, hp⟩ := h
  exact ⟨n, c, A, p, (hO.block R (by omega)).trans hR, hB.below (hO.below (by omega)) (Nat.le_refl _), hp⟩

theorem xor_small (x y : Nat) (hx : x < 2 ^ 40) (hy : y < 2 ^ 40) : bits BinOp.xor IntKind.i64 (x : Int) (y : Int) = ((x ^^^ y : Nat) : Int) := by
  have h : (BitVec.ofInt 64 (x : Int) ^^^ BitVec.ofInt 64 (y : Int)).toNat = x ^^^ y := by
    rw [BitVec.toNat_xor, BitVec.toNat_ofInt, BitVec.toNat_ofInt]
    have e1 : ((x : Int) % ((2 ^ 64 : Nat) : Int)).toNat = x := by omega
    have e2 : ((y : Int) % ((2 ^ 64 : Nat) : Int)).toNat = y := by omega
    rw [e1, e2]
  show IntKind.i64.wrap ((BitVec.ofInt 64 (x : Int) ^^^ BitVec.ofInt 64 (y : Int)).toNat : Int) = _
  rw [h]
  have := Nat.xor_lt_two_pow hx hy
  exact IntWalk.i64_in _ (by omega)

/-- What a draw leaves: a number below m, one more taken, and all but the source as it was. -/
def PickP (R P : Nat) (m : Int) (w : World) (E : Ending) (w' : World) : Prop := ∃ v : Nat, (v : Int) < m ∧ E = .returned (.int .i64 (v : Int)) ∧ SrcV w' R (P + 1) ∧ One R w w'

theorem src_next {w : World} {R P n c p : Nat} {A : Option Addr} (hR : w.heap[R]? = some (.cells #[.slice A n c, .int .i64 (p : Int)] 82 (0, 0))) (hB : ByteV w R n A c) (hp : p ≤ P) :
    SrcV (w.setCell ⟨R, 1, none⟩ (.int .i64 ((p : Int) + 1))) R (P + 1) ∧ One R w (w.setCell ⟨R, 1, none⟩ (.int .i64 ((p : Int) + 1))) := by
  have hO := (One.refl R w).set 1 (.int .i64 ((p : Int) + 1))
  refine ⟨⟨n, c, A, p + 1, ?_, hB.below (hO.below (Nat.le_refl _)) (Nat.le_refl _), by omega⟩, hO⟩
  have e : (((p + 1 : Nat) : Int)) = (p : Int) + 1 := by omega
  rw [e]
  simp [World.setCell, Array.getElem?_modify, hR]

set_option maxRecDepth 100000 in
set_option maxHeartbeats 2000000 in
theorem pick_any (R P : Nat) (m : Int) (w : World) (hm : 1 ≤ m) (hm2 : m ≤ 100000) (h : SrcV w R P) (hP : P ≤ 100000) :
    Calls Tryz.prog 24 #[.pointer (some ⟨R, 0, none⟩), .int .i64 m] w (PickP R P m w) := by
  obtain ⟨n, c, A, p, hR, hB, hp⟩ := h
  have hnc := hB.1
  have hcm := hB.2.1
  unfold maxLen at hcm
  have c0 : w.cell? ⟨R, 0, none⟩ = some (.slice A n c) := (cell_of_block hR 0).trans rfl
  have c1 : w.cell? ⟨R, 1, none⟩ = some (.int .i64 (p : Int)) := (cell_of_block hR 1).trans rfl
  have f1 := frozen_of_block hR 1
  obtain ⟨hsrc, hone⟩ := src_next hR hB hp
  have HS := Lib.hid hsrc
  have HO := Lib.hid hone
  have hw1 : IntKind.i64.wrap ((p : Int) + 1) = (p : Int) + 1 := IntWalk.i64_in _ (by omega)
  have hw2 : IntKind.i64.wrap ((p : Int) + 1 - 1) = (p : Int) := by rw [show (p : Int) + 1 - 1 = p by omega]; exact IntWalk.i64_in _ (by omega)
  have hw3 : IntKind.i64.wrap (p : Int) = (p : Int) := IntWalk.i64_in _ (by omega)
  have hm1 : decide (m < 1) = false := decide_eq_false (by omega)
  clear hsrc hone hR
  by_cases hn : n = 0
  · subst hn
    go_enter Tryz.func24, Tryz.ntmps24
    go_wp2_with fail
    go_ret
    exact ⟨0, by omega, rfl, HS.out, HO.out⟩
  · obtain ⟨b, rfl, hbb, hcell⟩ := hB.2.2 (by omega)
    have hn' : ((n : Int) == 0) = false := by simp; omega
    have hkeep : ∀ j, (w.setCell ⟨R, 1, none⟩ (.int .i64 ((p : Int) + 1))).cell? (b.add j) = w.cell? (b.add j) := fun j => World.cell?_setCell_other _ _ _ _ (fun e => by have := congrArg Addr.block e; rw [block_add] at this; simp at this; omega)
    by_cases hk : p < n
    · obtain ⟨v, hv, hv0, hv1⟩ := hcell p hk
      have hv' := (hkeep p).trans hv
      have t1 : decide ((p : Int) < (n : Int)) = true := decide_eq_true (by omega)
      have hmod0 : 0 ≤ v % m := Int.emod_nonneg _ (by omega)
      have hmod1 : v % m < m := Int.emod_lt_of_pos _ (by omega)
      clear hcell hv hkeep hB
      go_enter Tryz.func24, Tryz.ntmps24
      go_wp2_with fail
      go_ret
      exact ⟨(v % m).toNat, by omega, by rw [Int.toNat_of_nonneg hmod0]; rfl, HS.out, HO.out⟩
    · have t1 : decide ((p : Int) < (n : Int)) = false := decide_eq_false (by omega)
      obtain ⟨v1, h1, h10, h11⟩ := hcell (p % n) (Nat.mod_lt _ (by omega))
      obtain ⟨v2, h2, h20, h21⟩ := hcell ((p * 7 + 3) % n) (Nat.mod_lt _ (by omega))
      have h1' := (hkeep _).trans h1
      have h2' := (hkeep _).trans h2
      obtain ⟨j1, hj1⟩ : ∃ j, p % n = j := ⟨_, rfl⟩
      obtain ⟨j2, hj2⟩ : ∃ j, (p * 7 + 3) % n = j := ⟨_, rfl⟩
      obtain ⟨d, hd⟩ : ∃ d, p / n = d := ⟨_, rfl⟩
      have hdp : d ≤ p := by rw [← hd]; exact Nat.div_le_self _ _
      have hj1n : j1 < n := by rw [← hj1]; exact Nat.mod_lt _ (by omega)
      have hj2n : j2 < n := by rw [← hj2]; exact Nat.mod_lt _ (by omega)
      have e1 : (p : Int).tmod (n : Int) = (j1 : Int) := by rw [Int.tmod_eq_emod_of_nonneg (by omega), ← hj1]; simp
      have e2 : ((p : Int) * 7 + 3).tmod (n : Int) = (j2 : Int) := by rw [Int.tmod_eq_emod_of_nonneg (by omega), ← hj2]; simp
      have e3 : (p : Int).tdiv (n : Int) = (d : Int) := by rw [Int.tdiv_eq_ediv_of_nonneg (by omega), ← hd]; simp
      rw [hj1] at h1'
      rw [hj2] at h2'
      obtain ⟨u1, rfl⟩ : ∃ u : Nat, v1 = (u : Int) := ⟨v1.toNat, by omega⟩
      obtain ⟨u2, rfl⟩ : ∃ u : Nat, v2 = (u : Int) := ⟨v2.toNat, by omega⟩
      have hw7 : IntKind.i64.wrap ((p : Int) * 7) = (p : Int) * 7 := IntWalk.i64_in _ (by omega)
      have hw8 : IntKind.i64.wrap ((p : Int) * 7 + 3) = (p : Int) * 7 + 3 := IntWalk.i64_in _ (by omega)
      have hx1 : IntKind.i64.wrap ((u1 : Int) * 131) = (u1 : Int) * 131 := IntWalk.i64_in _ (by omega)
      have hx2 : IntKind.i64.wrap ((u2 : Int) * 1117) = (u2 : Int) * 1117 := IntWalk.i64_in _ (by omega)
      have hx3 : IntKind.i64.wrap ((u1 : Int) * 131 + (u2 : Int) * 1117) = (u1 : Int) * 131 + (u2 : Int) * 1117 := IntWalk.i64_in _ (by omega)
      have hx4 : IntKind.i64.wrap ((p : Int) * 29) = (p : Int) * 29 := IntWalk.i64_in _ (by omega)
      have hx5 : IntKind.i64.wrap ((u1 : Int) * 131 + (u2 : Int) * 1117 + (p : Int) * 29) = (u1 : Int) * 131 + (u2 : Int) * 1117 + (p : Int) * 29 := IntWalk.i64_in _ (by omega)
      have hx6 : IntKind.i64.wrap ((d : Int) * 53) = (d : Int) * 53 := IntWalk.i64_in _ (by omega)
      have hx7 : IntKind.i64.wrap ((u1 : Int) * 131 + (u2 : Int) * 1117 + (p : Int) * 29 + (d : Int) * 53) = (u1 : Int) * 131 + (u2 : Int) * 1117 + (p : Int) * 29 + (d : Int) * 53 := IntWalk.i64_in _ (by omega)
      have hy1 : IntKind.i64.wrap (u1 : Int) = (u1 : Int) := IntWalk.i64_in _ (by omega)
      have hy2 : IntKind.i64.wrap (u2 : Int) = (u2 : Int) := IntWalk.i64_in _ (by omega)
      obtain ⟨X, hX⟩ : ∃ X : Nat, (X : Int) = (u1 : Int) * 131 + (u2 : Int) * 1117 + (p : Int) * 29 + (d : Int) * 53 := ⟨u1 * 131 + u2 * 1117 + p * 29 + d * 53, by omega⟩
      have HX : Hid ((X : Int) = (u1 : Int) * 131 + (u2 : Int) * 1117 + (p : Int) * 29 + (d : Int) * 53 ∧ X < 2 ^ 40) := ⟨hX, by omega⟩
      clear hj1 hj2 hd hX h10 h11 h20 h21
      clear hcell h1 h2 hkeep hB
      go_enter Tryz.func24, Tryz.ntmps24
      go_wp2_with fail
      obtain ⟨mm, rfl⟩ : ∃ mm : Nat, m = (mm : Int) := ⟨m.toNat, by omega⟩
      have hXs := Nat.div_le_self X 64
      have g1 : (X : Int).tdiv 64 = ((X / 64 : Nat) : Int) := by rw [Int.tdiv_eq_ediv_of_nonneg (by omega)]; simp
      have g2 : bits BinOp.xor IntKind.i64 (X : Int) ((X / 64 : Nat) : Int) = ((X ^^^ (X / 64) : Nat) : Int) := xor_small _ _ HX.out.2 (by have := HX.out.2; omega)
      obtain ⟨D, hD⟩ : ∃ D, X / 64 = D := ⟨_, rfl⟩
      rw [hD] at g1 g2 hXs
      obtain ⟨Y, hY⟩ : ∃ Y, X ^^^ D = Y := ⟨_, rfl⟩
      rw [hY] at g2
      have g3 : (Y : Int).tmod (mm : Int) = ((Y % mm : Nat) : Int) := by rw [Int.tmod_eq_emod_of_nonneg (by omega)]; simp
      have g4 : Y % mm < mm := Nat.mod_lt _ (by omega)
      obtain ⟨Z, hZ⟩ : ∃ Z, Y % mm = Z := ⟨_, rfl⟩
      rw [hZ] at g3 g4
      have g5 : IntKind.i64.wrap (D : Int) = (D : Int) := IntWalk.i64_in _ (by have := HX.out.2; omega)
      clear hD hY hZ hXs
      go_quiet (fail)
      rw [← HX.out.1]
      go_wp2_with fail
      go_ret
      exact ⟨Z, by omega, rfl, HS.out, ⟨HO.out.os, HO.out.tape, HO.out.output, HO.out.size, HO.out.block, HO.out.frozen⟩⟩

end Go.Proofs.YtlddoookojjleaaGreatDoor

namespace Go.Proofs.YtlddoookojjleaaGreatDoor
open Go.RowKit Go.Deep
set_option linter.unusedVariables false

set_option maxRecDepth 100000 in
set_option maxHeartbeats 1000000 in
/-- One of a list of numbers. -/
theorem num_any (R P Q : Nat) (L : List Int) (w : World) (hQ : w.heap[Q]? = some (.cells (L.map (Value.int .i64)).toArray 3 (0, 0))) (hRQ : R ≠ Q) (hL : 1 ≤ L.length) (hL2 : L.length ≤ 1000) (h : SrcV w R P) (hP : P ≤ 100000) :
    Calls Tryz.prog 25 #[.pointer (some ⟨R, 0, none⟩), .slice (some ⟨Q, 0, none⟩) L.length L.length] w fun E w' => ∃ v ∈ L, E = .returned (.int .i64 v) ∧ SrcV w' R (P + 1) ∧ One R w w' := by
  obtain ⟨n, hn⟩ : ∃ n, L.length = n := ⟨_, rfl⟩
  have HQ := Lib.hid hQ
  have HN := Lib.hid hn
  have HP := Lib.hid (pick_any R P (n : Int) w (by omega) (by omega) h hP)
  rw [hn] at hL hL2 ⊢
  clear hQ h hn
  go_enter Tryz.func25, Tryz.ntmps25
  go_wp2_with fail
  refine HP.out.mono ?_
  rintro E w1 ⟨v, hv, rfl, hs, ho⟩
  have hvn : v < n := by omega
  have hvL : v < L.length := by rw [HN.out]; exact hvn
  have hc : w1.cell? ⟨Q, v, none⟩ = some (.int .i64 L[v]) := by
    rw [cell_of_block ((ho.block Q (fun e => hRQ e.symm)).trans HQ.out)]
    simp [hvL]
  have HS := Lib.hid hs
  have HO := Lib.hid ho
  obtain ⟨z, hz⟩ : ∃ z, L[v] = z := ⟨_, rfl⟩
  rw [hz] at hc
  have HZ : Hid (z ∈ L) := by rw [← hz]; exact List.getElem_mem hvL
  clear hs ho hz hvL
  go_wp2_with fail
  go_ret
  exact ⟨z, HZ.out, rfl, HS.out, HO.out⟩

/-- A new source of draws: its block is the last one. -/
def OpenP (w : World) (E : Ending) (w' : World) : Prop := E = .returned (.pointer (some ⟨w.heap.size, 0, none⟩)) ∧ SrcV w' w.heap.size 0 ∧ Below w.heap.size w w'

set_option maxRecDepth 100000 in
set_option maxHeartbeats 400000 in
theorem l17Open_any (n c : Nat) (A : Option Addr) (w : World) (hB : ByteV w w.heap.size n A c) :
    Calls Tryz.prog 23 #[.slice A n c] w (OpenP w) := by
  have hnc := hB.1
  have hcm := hB.2.1
  unfold maxLen at hcm
  by_cases hn : n ≤ 2000
  · have hb := (Below.refl w.heap.size w).alloc (Nat.le_refl _) (.cells #[.slice A n c, .int .i64 0] 82)
    have hp : OpenP w (.returned (.pointer (some ⟨w.heap.size, 0, none⟩))) (w.alloc (.cells #[.slice A n c, .int .i64 0] 82)) := ⟨rfl, ⟨n, c, A, 0, heap_alloc_new w _, hB.below hb (Nat.le_refl _), Nat.le_refl _⟩, hb⟩
    have HP := Lib.hid hp
    clear hb hp hB
    go_enter Tryz.func23, Tryz.ntmps23
    go_wp2_with fail
    go_ret
    exact HP.out
  · have hn2 : 2000 < n := by omega
    have hB2 : ByteV w w.heap.size 2000 A c := ⟨by omega, hB.2.1, fun _ => by
      obtain ⟨b, rfl, hbb, hc⟩ := hB.2.2 (by omega)
      exact ⟨b, rfl, hbb, fun j hj => hc j (by omega)⟩⟩
    have hb := (Below.refl w.heap.size w).alloc (Nat.le_refl _) (.cells #[.slice A 2000 c, .int .i64 0] 82)
    have hp : OpenP w (.returned (.pointer (some ⟨w.heap.size, 0, none⟩))) (w.alloc (.cells #[.slice A 2000 c, .int .i64 0] 82)) := ⟨rfl, ⟨2000, c, A, 0, heap_alloc_new w _, hB2.below hb (Nat.le_refl _), Nat.le_refl _⟩, hb⟩
    have HP := Lib.hid hp
    clear hb hp hB hB2
    go_enter Tryz.func23, Tryz.ntmps23
    go_wp2_with fail
    go_ret
    exact HP.out

end Go.Proofs.YtlddoookojjleaaGreatDoor
