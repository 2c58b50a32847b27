/-
  The model's source of draws: a row of bytes, and how many were taken.
-/
import Derived.Test.YtcaklhempmlpgaaOwD
import Derived.Deep.QuietTactic
import Derived.BigQuiet
import Derived.IntWalk
namespace Go.Proofs.Ytcaklhempmlpgaa
open Go.RowKit Go.Deep
set_option linter.unusedVariables false

/-- A slice reads as bytes, in blocks below hi. -/
def ByteV (w : World) (hi n : Nat) (A : Option Addr) (c : Nat) : Prop :=
  n ≤ c ∧ c ≤ maxLen ∧ (0 < n → ∃ b, A = some b ∧ b.block < hi ∧ ∀ j, j < n → ∃ v : Int, w.cell? (b.add j) = some (.int .u8 v) ∧ 0 ≤ v ∧ v ≤ 255)

theorem ByteV.below {w w' : World} {hi hi' n : Nat} {A : Option Addr} {c : Nat} (h : ByteV w hi n A c) (hb : Below hi w w') (hhi : hi ≤ hi') : ByteV w' hi' n A c :=
  ⟨h.1, h.2.1, fun hn => by
    obtain ⟨b, rfl, hbb, hc⟩ := h.2.2 hn
    exact ⟨b, rfl, by omega, fun j hj => by
      obtain ⟨v, hv, h0, h1⟩ := hc j hj
      exact ⟨v, (hb.cell (by rw [block_add]; exact hbb)).trans hv, h0, h1⟩⟩⟩

/-- A source of draws in block R, of which at most P were taken. -/
def SrcV (w : World) (R P : Nat) : Prop := ∃ (n c : Nat) (A : Option Addr) (p : Nat), w.heap[R]? = some (.cells #[.slice A n c, .int .i64 (p : Int)] 68 (0, 0)) ∧ ByteV w R n A c ∧ p ≤ P

theorem SrcV.lt {w : World} {R P : Nat} (h : SrcV w R P) : R < w.heap.size := by
  obtain ⟨n, c, A, p, hR, _⟩ := h
  exact heap_lt hR

theorem SrcV.below {w w' : World} {R P : Nat} (h : SrcV w R P) (hb : Below w.heap.size w w') : SrcV w' R P := by
  have hl := h.lt
  obtain ⟨n, c, A, p, hR, hB, hp⟩ := h
  exact ⟨n, c, A, p, (hb.block R hl).trans hR, hB.below (hb.mono (by omega)) (Nat.le_refl _), hp⟩

theorem SrcV.more {w : World} {R P P' : Nat} (h : SrcV w R P) (hp : P ≤ P') : SrcV w R P' := by
  obtain ⟨n, c, A, p, hR, hB, hp'⟩ := h
  exact ⟨n, c, A, p, hR, hB, by omega⟩

/-- Another block changed. -/
theorem SrcV.one {w w' : World} {R P g : Nat} (h : SrcV w R P) (hO : One g w w') (hg : R < g) : SrcV w' R P := by
  obtain ⟨n, c, A, p, hR, hB, hp⟩ := h
  exact ⟨n, c, A, p, (hO.block R (by omega)).trans hR, hB.below (hO.below (by omega)) (Nat.le_refl _), hp⟩

theorem xor_small (x y : Nat) (hx : x < 2 ^ 40) (hy : y < 2 ^ 40) : bits BinOp.xor IntKind.i64 (x : Int) (y : Int) = ((x ^^^ y : Nat) : Int) := by
  have h : (BitVec.ofInt 64 (x : Int) ^^^ BitVec.ofInt 64 (y : Int)).toNat = x ^^^ y := by
    rw [BitVec.toNat_xor, BitVec.toNat_ofInt, BitVec.toNat_ofInt]
    have e1 : ((x : Int) % ((2 ^ 64 : Nat) : Int)).toNat = x := by omega
    have e2 : ((y : Int) % ((2 ^ 64 : Nat) : Int)).toNat = y := by omega
    rw [e1, e2]
  show IntKind.i64.wrap ((BitVec.ofInt 64 (x : Int) ^^^ BitVec.ofInt 64 (y : Int)).toNat : Int) = _
  rw [h]
  have := Nat.xor_lt_two_pow hx hy
  exact IntWalk.i64_in _ (by omega)

/-- What a draw leaves: a number below m, one more taken, and all but the source as it was. -/
def PickP (R P : Nat) (m : Int) (w : World) (E : Ending) (w' : World) : Prop := ∃ v : Nat, (v : Int) < m ∧ E = .returned (.int .i64 (v : Int)) ∧ SrcV w' R (P + 1) ∧ One R w w'

theorem src_next {w : World} {R P n c p : Nat} {A : Option Addr} (hR : w.heap[R]? = some (.cells #[.slice A n c, .int .i64 (p : Int)] 68 (0, 0))) (hB : ByteV w R n A c) (hp : p ≤ P) :
    SrcV (w.setCell ⟨R, 1, none⟩ (.int .i64 ((p : Int) + 1))) R (P + 1) ∧ One R w (w.setCell ⟨R, 1, none⟩ (.int .i64 ((p : Int) + 1))) := by
  have hO := (One.refl R w).set 1 (.int .i64 ((p : Int) + 1))
  refine ⟨⟨n, c, A, p + 1, ?_, hB.below (hO.below (Nat.le_refl _)) (Nat.le_refl _), by omega⟩, hO⟩
  have e : (((p + 1 : Nat) : Int)) = (p : Int) + 1 := by omega
  rw [e]
  simp [World.setCell, Array.getElem?_modify, hR]

set_option maxRecDepth 100000 in
set_option maxHeartbeats 2000000 in
theorem pick_any (R P : Nat) (m : Int) (w : World) (hm : 1 ≤ m) (hm2 : m ≤ 100000) (h : SrcV w R P) (hP : P ≤ 100000) :
    Calls Try.prog 31 #[.pointer (some ⟨R, 0, none⟩), .int .i64 m] w (PickP R P m w) := by
  obtain ⟨n, c, A, p, hR, hB, hp⟩ := h
  have hnc := hB.1
  have hcm := hB.2.1
  unfold maxLen at hcm
  have c0 : w.cell? ⟨R, 0, none⟩ = some (.slice A n c) := (cell_of_block hR 0).trans rfl
  have c1 : w.cell? ⟨R, 1, none⟩ = some (.int .i64 (p : Int)) := (cell_of_block hR 1).trans rfl
  have f1 := frozen_of_block hR 1
  obtain ⟨hsrc, hone⟩ := src_next hR hB hp
  have HS := Lib.hid hsrc
  have HO := Lib.hid hone
  have hw1 : IntKind.i64.wrap ((p : Int) + 1) = (p : Int) + 1 := IntWalk.i64_in _ (by omega)
  have hw2 : IntKind.i64.wrap ((p : Int) + 1 - 1) = (p : Int) := by rw [show (p : Int) + 1 - 1 = p by omega]; exact IntWalk.i64_in _ (by omega)
  have hw3 : IntKind.i64.wrap (p : Int) = (p : Int) := IntWalk.i64_in _ (by omega)
  have hm1 : decide (m < 1) = false := decide_eq_false (by omega)
  clear hsrc hone hR
  by_cases hn : n = 0
  · subst hn
    go_enter Try.func31, Try.ntmps31
    go_wp2_with fail
    go_ret
    exact ⟨0, by omega, rfl, HS.out, HO.out⟩
  · obtain ⟨b, rfl, hbb, hcell⟩ := hB.2.2 (by omega)
    have hn' : ((n : Int) == 0) = false := by simp; omega
    have hkeep : ∀ j, (w.setCell ⟨R, 1, none⟩ (.int .i64 ((p : Int) + 1))).cell? (b.add j) = w.cell? (b.add j) := fun j => World.cell?_setCell_other _ _ _ _ (fun e => by have := congrArg Addr.block e; rw [block_add] at this; simp at this; omega)
    by_cases hk : p < n
    · obtain ⟨v, hv, hv0, hv1⟩ := hcell p hk
      have hv' := (hkeep p).trans hv
      have t1 : decide ((p : Int) < (n : Int)) = true := decide_eq_true (by omega)
      have hmod0 : 0 ≤ v % m := Int.emod_nonneg _ (by omega)
      have hmod1 : v % m < m := Int.emod_lt_of_pos _ (by omega)
      clear hcell hv hkeep hB
      go_enter Try.func31, Try.ntmps31
      go_wp2_with fail
      go_ret
      exact ⟨(v % m).toNat, by omega, by rw [Int.toNat_of_nonneg hmod0]; rfl, HS.out, HO.out⟩
    · have t1 : decide ((p : Int) < (n : Int)) = false := decide_eq_false (by omega)
      obtain ⟨v1, h1, h10, h11⟩ := hcell (p % n) (Nat.mod_lt _ (by omega))
      obtain ⟨v2, h2, h20, h21⟩ := hcell ((p * 7 + 3) % n) (Nat.mod_lt _ (by omega))
      have h1' := (hkeep _).trans h1
      have h2' := (hkeep _).trans h2
      obtain ⟨j1, hj1⟩ : ∃ j, p % n = j := ⟨_, rfl⟩
      obtain ⟨j2, hj2⟩ : ∃ j, (p * 7 + 3) % n = j := ⟨_, rfl⟩
      obtain ⟨d, hd⟩ : ∃ d, p / n = d := ⟨_, rfl⟩
      have hdp : d ≤ p := by rw [← hd]; exact Nat.div_le_self _ _
      have hj1n : j1 < n := by rw [← hj1]; exact Nat.mod_lt _ (by omega)
      have hj2n : j2 < n := by rw [← hj2]; exact Nat.mod_lt _ (by omega)
      have e1 : (p : Int).tmod (n : Int) = (j1 : Int) := by rw [Int.tmod_eq_emod_of_nonneg (by omega), ← hj1]; simp
      have e2 : ((p : Int) * 7 + 3).tmod (n : Int) = (j2 : Int) := by rw [Int.tmod_eq_emod_of_nonneg (by omega), ← hj2]; simp
      have e3 : (p : Int).tdiv (n : Int) = (d : Int) := by rw [Int.tdiv_eq_ediv_of_nonneg (by omega), ← hd]; simp
      rw [hj1] at h1'
      rw [hj2] at h2'
      obtain ⟨u1, rfl⟩ : ∃ u : Nat, v1 = (u : Int) := ⟨v1.toNat, by omega⟩
      obtain ⟨u2, rfl⟩ : ∃ u : Nat, v2 = (u : Int) := ⟨v2.toNat, by omega⟩
      have hw7 : IntKind.i64.wrap ((p : Int) * 7) = (p : Int) * 7 := IntWalk.i64_in _ (by omega)
      have hw8 : IntKind.i64.wrap ((p : Int) * 7 + 3) = (p : Int) * 7 + 3 := IntWalk.i64_in _ (by omega)
      have hx1 : IntKind.i64.wrap ((u1 : Int) * 131) = (u1 : Int) * 131 := IntWalk.i64_in _ (by omega)
      have hx2 : IntKind.i64.wrap ((u2 : Int) * 1117) = (u2 : Int) * 1117 := IntWalk.i64_in _ (by omega)
      have hx3 : IntKind.i64.wrap ((u1 : Int) * 131 + (u2 : Int) * 1117) = (u1 : Int) * 131 + (u2 : Int) * 1117 := IntWalk.i64_in _ (by omega)
      have hx4 : IntKind.i64.wrap ((p : Int) * 29) = (p : Int) * 29 := IntWalk.i64_in _ (by omega)
      have hx5 : IntKind.i64.wrap ((u1 : Int) * 131 + (u2 : Int) * 1117 + (p : Int) * 29) = (u1 : Int) * 131 + (u2 : Int) * 1117 + (p : Int) * 29 := IntWalk.i64_in _ (by omega)
      have hx6 : IntKind.i64.wrap ((d : Int) * 53) = (d : Int) * 53 := IntWalk.i64_in _ (by omega)
      have hx7 : IntKind.i64.wrap ((u1 : Int) * 131 + (u2 : Int) * 1117 + (p : Int) * 29 + (d : Int) * 53) = (u1 : Int) * 131 + (u2 : Int) * 1117 + (p : Int) * 29 + (d : Int) * 53 := IntWalk.i64_in _ (by omega)
      have hy1 : IntKind.i64.wrap (u1 : Int) = (u1 : Int) := IntWalk.i64_in _ (by omega)
      have hy2 : IntKind.i64.wrap (u2 : Int) = (u2 : Int) := IntWalk.i64_in _ (by omega)
      obtain ⟨X, hX⟩ : ∃ X : Nat, (X : Int) = (u1 : Int) * 131 + (u2 : Int) * 1117 + (p : Int) * 29 + (d : Int) * 53 := ⟨u1 * 131 + u2 * 1117 + p * 29 + d * 53, by omega⟩
      have HX : Hid ((X : Int) = (u1 : Int) * 131 + (u2 : Int) * 1117 + (p : Int) * 29 + (d : Int) * 53 ∧ X < 2 ^ 40) := ⟨hX, by omega⟩
      clear hj1 hj2 hd hX h10 h11 h20 h21
      clear hcell h1 h2 hkeep hB
      go_enter Try.func31, Try.ntmps31
      go_wp2_with fail
      obtain ⟨mm, rfl⟩ : ∃ mm : Nat, m = (mm : Int) := ⟨m.toNat, by omega⟩
      have hXs := Nat.div_le_self X 64
      have g1 : (X : Int).tdiv 64 = ((X / 64 : Nat) : Int) := by rw [Int.tdiv_eq_ediv_of_nonneg (by omega)]; simp
      have g2 : bits BinOp.xor IntKind.i64 (X : Int) ((X / 64 : Nat) : Int) = ((X ^^^ (X / 64) : Nat) : Int) := xor_small _ _ HX.out.2 (by have := HX.out.2; omega)
      obtain ⟨D, hD⟩ : ∃ D, X / 64 = D := ⟨_, rfl⟩
      rw [hD] at g1 g2 hXs
      obtain ⟨Y, hY⟩ : ∃ Y, X ^^^ D = Y := ⟨_, rfl⟩
      rw [hY] at g2
      have g3 : (Y : Int).tmod (mm : Int) = ((Y % mm : Nat) : Int) := by rw [Int.tmod_eq_emod_of_nonneg (by omega)]; simp
      have g4 : Y % mm < mm := Nat.mod_lt _ (by omega)
      obtain ⟨Z, hZ⟩ : ∃ Z, Y % mm = Z := ⟨_, rfl⟩
      rw [hZ] at g3 g4
      have g5 : IntKind.i64.wrap (D : Int) = (D : Int) := IntWalk.i64_in _ (by have := HX.out.2; omega)
      clear hD hY hZ hXs
      go_quiet (fail)
      rw [← HX.out.1]
      go_wp2_with fail
      go_ret
      exact ⟨Z, by omega, rfl, HS.out, ⟨HO.out.os, HO.out.tape, HO.out.output, HO.out.size, HO.out.block, HO.out.frozen⟩⟩

end Go.Proofs.Ytcaklhempmlpgaa
