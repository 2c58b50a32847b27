/-
  What a point does with variables, by the program.
-/
import Derived.Test.YtbffldgiccijlaaGreatDoorZKinds
import Derived.Test.YtbffldgiccijlaaGreatDoorZBase
import Derived.Test.YtbffldgiccijlaaGreatDoorZMem
import Derived.StillTailTactics
import Derived.Deep.RegionHeld3
namespace Go.Proofs.YtbffldgiccijlaaGreatDoor
open Go.RowKit Go.Deep
set_option linter.unusedVariables false

/-- The four sets as a value. -/
def efV (e : Ef) : Value := .agg #[.int .u64 (e.r : Int), .int .u64 (e.t : Int), .int .u64 (e.c : Int), .int .u64 (e.s : Int)]

/-- A node as a value. -/
def ndV (d : Nd) (p0 p1 p2 : Int) : Value := .agg #[.int .i64 d.op, .int .i64 d.x, .int .i64 d.y, .int .i64 d.n, .int .i64 p0, .int .i64 p1, .int .i64 p2]

theorem held_W {B K : Nat} {w1 wo w' : World} {b0 b1 b2 : Value} (hb : Below wo.heap.size wo w') (h : Below K w1 wo) (hK : K = w1.heap.size) (hB : B < w1.heap.size)
    (q0 : w1.cell? ⟨B, 0, none⟩ = some b0) (q1 : w1.cell? ⟨B, 1, none⟩ = some b1) (q2 : w1.cell? ⟨B, 2, none⟩ = some b2) :
    Below K w1 w' ∧ w'.cell? ⟨B, 0, none⟩ = some b0 ∧ w'.cell? ⟨B, 1, none⟩ = some b1 ∧ w'.cell? ⟨B, 2, none⟩ = some b2 := by
  subst hK
  have hbb : Below w1.heap.size w1 w' := h.trans (hb.mono h.size)
  exact ⟨hbb, (hbb.cell hB).trans q0, (hbb.cell hB).trans q1, (hbb.cell hB).trans q2⟩

/-- Two new blocks. -/
theorem two_new (w : World) (o1 o2 : Obj) : Below w.heap.size w ((w.alloc o1).alloc o2) ∧ ((w.alloc o1).alloc o2).heap.size = w.heap.size + 2 ∧ ((w.alloc o1).alloc o2).heap[w.heap.size]? = some o1 ∧ ((w.alloc o1).alloc o2).heap[w.heap.size + 1]? = some o2 := by
  have hz : (w.alloc o1).heap.size = w.heap.size + 1 := by simp
  refine ⟨((Below.refl w.heap.size w).alloc (Nat.le_refl _) o1).alloc (by simp) o2, by simp, ?_, ?_⟩
  · exact (((Below.refl (w.heap.size + 1) (w.alloc o1)).alloc (by omega) o2).block _ (by omega)).trans (heap_alloc_new w o1)
  · have := heap_alloc_new (w.alloc o1) o2
    rw [hz] at this
    exact this

theorem below_set {B b o : Nat} {w w' : World} {v : Value} (h : Below B w w') (hb : B ≤ b) : Below B w (w'.setCell ⟨b, o, none⟩ v) :=
  ⟨h.os, h.tape, h.output, by have := h.size; simpa [World.setCell] using this, fun k hk => (heap_setCell_other _ _ _ _ (by simp; omega)).trans (h.block k hk)⟩

/-- Four cells, written. -/
theorem four_set {w : World} {b : Nat} {z0 z1 z2 z3 a0 a1 a2 a3 : Value} {t : TypeId} (h : w.heap[b]? = some (.cells #[z0, z1, z2, z3] t (0, 0))) :
    ((((w.setCell ⟨b, 0, none⟩ a0).setCell ⟨b, 1, none⟩ a1).setCell ⟨b, 2, none⟩ a2).setCell ⟨b, 3, none⟩ a3).cell? ⟨b, 0, none⟩ = some a0 ∧
    ((((w.setCell ⟨b, 0, none⟩ a0).setCell ⟨b, 1, none⟩ a1).setCell ⟨b, 2, none⟩ a2).setCell ⟨b, 3, none⟩ a3).cell? ⟨b, 1, none⟩ = some a1 ∧
    ((((w.setCell ⟨b, 0, none⟩ a0).setCell ⟨b, 1, none⟩ a1).setCell ⟨b, 2, none⟩ a2).setCell ⟨b, 3, none⟩ a3).cell? ⟨b, 2, none⟩ = some a2 ∧
    ((((w.setCell ⟨b, 0, none⟩ a0).setCell ⟨b, 1, none⟩ a1).setCell ⟨b, 2, none⟩ a2).setCell ⟨b, 3, none⟩ a3).cell? ⟨b, 3, none⟩ = some a3 := by
  have h1 := heap_setCell_same w b 0 _ t a0 h
  have h2 := heap_setCell_same _ b 1 _ t a1 h1
  have h3 := heap_setCell_same _ b 2 _ t a2 h2
  have h4 := heap_setCell_same _ b 3 _ t a3 h3
  exact ⟨(cell_of_block h4 0).trans rfl, (cell_of_block h4 1).trans rfl, (cell_of_block h4 2).trans rfl, (cell_of_block h4 3).trans rfl⟩

/-- One member. -/
theorem with0_any (i : Nat) (hi : i < 64) (w : World) :
    Calls Tryz.prog 73 #[.int .u64 0, .int .i64 i] w fun E w' => E = .returned (.int .u64 ((2 ^ i : Nat) : Int)) ∧ Below w.heap.size w w' := by
  have h := with_any 0 i (by decide) hi w
  rw [Nat.zero_or] at h
  exact h

theorem toNat_cast (x : Nat) : ((x : Nat) : Int).toNat = x := by simp

set_option maxRecDepth 100000 in
set_option maxHeartbeats 8000000 in
theorem effectOf_any (ts : List Int) (A : Option Addr) (c : Nat) (op n p0 p1 p2 : Int) (x y : Nat) (nx : List Int) (w : World) (hT : IntsV w 0 w.heap.size ts A c) (hx : x ≤ 5) (hy : y ≤ 5) :
    Calls Tryz.prog 82 #[.agg #[.int .i64 op, .int .i64 x, .int .i64 y, .int .i64 n, .int .i64 p0, .int .i64 p1, .int .i64 p2], .slice A ts.length c] w fun E w' => E = .returned (efV (effD ts ⟨op, x, y, n, nx⟩)) ∧ Below w.heap.size w w' := by
  obtain ⟨hb0, hz, hB1, hB2⟩ := two_new w (.cells #[.int .i64 op, .int .i64 x, .int .i64 y, .int .i64 n, .int .i64 p0, .int .i64 p1, .int .i64 p2] 57) (.cells #[.int .u64 0, .int .u64 0, .int .u64 0, .int .u64 0] 75)
  have hwx := fun W => with0_any x (by omega) W
  have hwy := fun W => with0_any y (by omega) W
  have hEf : efV (effD ts ⟨op, x, y, n, nx⟩) = efV (effD ts ⟨op, x, y, n, nx⟩) := rfl
  obtain ⟨X, hX⟩ : ∃ X, X = 2 ^ x := ⟨_, rfl⟩
  obtain ⟨Y, hY⟩ : ∃ Y, Y = 2 ^ y := ⟨_, rfl⟩
  rw [← hX] at hwx
  rw [← hY] at hwy
  have HX := Lib.hid hX
  have HY := Lib.hid hY
  clear hX hY hEf
  go_enter Tryz.func82, Tryz.ntmps82
  go_wp2_with fail
  generalize hw1 : (w.alloc (.cells #[.int .i64 op, .int .i64 x, .int .i64 y, .int .i64 n, .int .i64 p0, .int .i64 p1, .int .i64 p2] 57)).alloc (.cells #[.int .u64 0, .int .u64 0, .int .u64 0, .int .u64 0] 75) = w1 at *
  clear hw1
  have q0 : w1.cell? ⟨w.heap.size, 0, none⟩ = some (.int .i64 op) := (cell_of_block hB1 0).trans rfl
  have q1 : w1.cell? ⟨w.heap.size, 1, none⟩ = some (.int .i64 x) := (cell_of_block hB1 1).trans rfl
  have q2 : w1.cell? ⟨w.heap.size, 2, none⟩ = some (.int .i64 y) := (cell_of_block hB1 2).trans rfl
  have HB2 := Lib.hid hB2
  have hz1 : w.heap.size < w1.heap.size := by omega
  clear hB1 hB2
  go_region_held3 (fun w' => Below w1.heap.size w1 w' ∧ w'.cell? ⟨w.heap.size, 0, none⟩ = some (.int .i64 op) ∧ w'.cell? ⟨w.heap.size, 1, none⟩ = some (.int .i64 x) ∧ w'.cell? ⟨w.heap.size, 2, none⟩ = some (.int .i64 y))
      (first | exact ⟨(Below.refl w1.heap.size w1).drew, q0, q1, q2⟩ | exact held_W hbn (And.left ‹Below w1.heap.size w1 _ ∧ _›) rfl hz1 q0 q1 q2)
      (first | (go_at_call 73; refine (hwx _).mono ?_; rintro E w' ⟨rfl, hbn⟩) | (go_at_call 73; refine (hwy _).mono ?_; rintro E w' ⟨rfl, hbn⟩))
  obtain ⟨hb2, r0, r1, r2⟩ := ‹Below w1.heap.size w1 w' ∧ _›
  have hb3 : Below w.heap.size w w' := hb0.trans (hb2.mono (by omega))
  have hB3 := (hb2.block (w.heap.size + 1) (by omega)).trans HB2.out
  have HB3 := Lib.hid hB3
  have e0 : w'.cell? ⟨w.heap.size + 1, 0, none⟩ = some (.int .u64 0) := (cell_of_block hB3 0).trans rfl
  have e1 : w'.cell? ⟨w.heap.size + 1, 1, none⟩ = some (.int .u64 0) := (cell_of_block hB3 1).trans rfl
  have e2 : w'.cell? ⟨w.heap.size + 1, 2, none⟩ = some (.int .u64 0) := (cell_of_block hB3 2).trans rfl
  have e3 : w'.cell? ⟨w.heap.size + 1, 3, none⟩ = some (.int .u64 0) := (cell_of_block hB3 3).trans rfl
  have f0 : ∀ j, w'.frozen? ⟨w.heap.size + 1, j, none⟩ = false := fun j => frozen_of_row _ _ _ _ _ hB3
  clear hB3 q0 q1 q2 hb2 hb0
  by_cases o1 : op = 1
  · subst o1
    go_wp2_with fail
    obtain ⟨c0, c1, c2, c3⟩ := four_set (a0 := .int .u64 0) (a1 := .int .u64 0) (a2 := .int .u64 0) (a3 := .int .u64 (X : Int)) HB3.out
    refine bodyPost_ret (v := .agg #[.int .u64 0, .int .u64 0, .int .u64 0, .int .u64 (X : Int)]) (by simp [results, Tryz.results82, go_sem, c0, c1, c2, c3]) rfl ⟨by rw [show effD ts ⟨1, x, y, n, nx⟩ = ⟨0, 0, 0, X⟩ from by simp [effD, HX.out]]; rfl, below_set (below_set (below_set (below_set hb3 (by omega)) (by omega)) (by omega)) (by omega)⟩
  by_cases o2 : op = 2
  · subst o2
    go_wp2_with fail
    obtain ⟨c0, c1, c2, c3⟩ := four_set (a0 := .int .u64 0) (a1 := .int .u64 0) (a2 := .int .u64 0) (a3 := .int .u64 (X : Int)) HB3.out
    refine bodyPost_ret (v := .agg #[.int .u64 0, .int .u64 0, .int .u64 0, .int .u64 (X : Int)]) (by simp [results, Tryz.results82, go_sem, c0, c1, c2, c3]) rfl ⟨by rw [show effD ts ⟨2, x, y, n, nx⟩ = ⟨0, 0, 0, X⟩ from by simp [effD, HX.out]]; rfl, below_set (below_set (below_set (below_set hb3 (by omega)) (by omega)) (by omega)) (by omega)⟩
  by_cases o3 : op = 3
  · subst o3
    have hT3 : IntsV w' 0 w'.heap.size ts A c := hT.below hb3 hb3.size
    have ht := typeOf_any ts A c y w' hT3
    go_wp2_with fail
    refine ht.mono ?_
    rintro E w5 ⟨rfl, rfl⟩
    go_wp2_with fail
    refine (writesCell_any _ _).mono ?_
    rintro E w5 ⟨rfl, rfl⟩
    by_cases hty : tyAt ts y = 2 ∨ tyAt ts y = 4
    · have hd : decide (tyAt ts y = 2 ∨ tyAt ts y = 4) = true := decide_eq_true hty
      have he : effD ts ⟨3, x, y, n, nx⟩ = ⟨0, Y, 0, X⟩ := by simp [effD, HX.out, HY.out, hty]
      have HE := Lib.hid he
      clear he hty ht
      go_wp2_with (simp only [hd])
      obtain ⟨c0, c1, c2, c3⟩ := four_set (a0 := .int .u64 0) (a1 := .int .u64 (Y : Int)) (a2 := .int .u64 0) (a3 := .int .u64 (X : Int)) HB3.out
      refine bodyPost_ret (v := .agg #[.int .u64 0, .int .u64 (Y : Int), .int .u64 0, .int .u64 (X : Int)]) (by simp [results, Tryz.results82, go_sem, c0, c1, c2, c3]) rfl ⟨by rw [HE.out]; rfl, below_set (below_set (below_set (below_set hb3 (by omega)) (by omega)) (by omega)) (by omega)⟩
    · have hd : decide (tyAt ts y = 2 ∨ tyAt ts y = 4) = false := decide_eq_false hty
      have he : effD ts ⟨3, x, y, n, nx⟩ = ⟨Y, 0, 0, X⟩ := by simp [effD, HX.out, HY.out, hty]
      have HE := Lib.hid he
      clear he hty ht
      go_wp2_with (simp only [hd])
      obtain ⟨c0, c1, c2, c3⟩ := four_set (a0 := .int .u64 (Y : Int)) (a1 := .int .u64 0) (a2 := .int .u64 0) (a3 := .int .u64 (X : Int)) HB3.out
      refine bodyPost_ret (v := .agg #[.int .u64 (Y : Int), .int .u64 0, .int .u64 0, .int .u64 (X : Int)]) (by simp [results, Tryz.results82, go_sem, c0, c1, c2, c3]) rfl ⟨by rw [HE.out]; rfl, below_set (below_set (below_set (below_set hb3 (by omega)) (by omega)) (by omega)) (by omega)⟩
  by_cases o4 : op = 4
  · subst o4
    go_wp2_with fail
    obtain ⟨c0, c1, c2, c3⟩ := four_set (a0 := .int .u64 0) (a1 := .int .u64 0) (a2 := .int .u64 (Y : Int)) (a3 := .int .u64 (X : Int)) HB3.out
    refine bodyPost_ret (v := .agg #[.int .u64 0, .int .u64 0, .int .u64 (Y : Int), .int .u64 (X : Int)]) (by simp [results, Tryz.results82, go_sem, c0, c1, c2, c3]) rfl ⟨by rw [show effD ts ⟨4, x, y, n, nx⟩ = ⟨0, 0, Y, X⟩ from by simp [effD, HX.out, HY.out]]; rfl, below_set (below_set (below_set (below_set hb3 (by omega)) (by omega)) (by omega)) (by omega)⟩
  by_cases o5 : op = 5
  · subst o5
    go_wp2_with fail
    obtain ⟨c0, c1, c2, c3⟩ := four_set (a0 := .int .u64 0) (a1 := .int .u64 0) (a2 := .int .u64 (Y : Int)) (a3 := .int .u64 (X : Int)) HB3.out
    refine bodyPost_ret (v := .agg #[.int .u64 0, .int .u64 0, .int .u64 (Y : Int), .int .u64 (X : Int)]) (by simp [results, Tryz.results82, go_sem, c0, c1, c2, c3]) rfl ⟨by rw [show effD ts ⟨5, x, y, n, nx⟩ = ⟨0, 0, Y, X⟩ from by simp [effD, HX.out, HY.out]]; rfl, below_set (below_set (below_set (below_set hb3 (by omega)) (by omega)) (by omega)) (by omega)⟩
  by_cases o6 : op = 6
  · subst o6
    go_wp2_with fail
    obtain ⟨c0, c1, c2, c3⟩ := four_set (a0 := .int .u64 0) (a1 := .int .u64 0) (a2 := .int .u64 (Y : Int)) (a3 := .int .u64 (X : Int)) HB3.out
    refine bodyPost_ret (v := .agg #[.int .u64 0, .int .u64 0, .int .u64 (Y : Int), .int .u64 (X : Int)]) (by simp [results, Tryz.results82, go_sem, c0, c1, c2, c3]) rfl ⟨by rw [show effD ts ⟨6, x, y, n, nx⟩ = ⟨0, 0, Y, X⟩ from by simp [effD, HX.out, HY.out]]; rfl, below_set (below_set (below_set (below_set hb3 (by omega)) (by omega)) (by omega)) (by omega)⟩
  by_cases o7 : op = 7
  · subst o7
    go_wp2_with fail
    obtain ⟨c0, c1, c2, c3⟩ := four_set (a0 := .int .u64 (Y : Int)) (a1 := .int .u64 0) (a2 := .int .u64 (X : Int)) (a3 := .int .u64 0) HB3.out
    refine bodyPost_ret (v := .agg #[.int .u64 (Y : Int), .int .u64 0, .int .u64 (X : Int), .int .u64 0]) (by simp [results, Tryz.results82, go_sem, c0, c1, c2, c3]) rfl ⟨by rw [show effD ts ⟨7, x, y, n, nx⟩ = ⟨Y, 0, X, 0⟩ from by simp [effD, HX.out, HY.out]]; rfl, below_set (below_set (below_set (below_set hb3 (by omega)) (by omega)) (by omega)) (by omega)⟩
  by_cases o8 : op = 8
  · subst o8
    go_wp2_with fail
    obtain ⟨c0, c1, c2, c3⟩ := four_set (a0 := .int .u64 0) (a1 := .int .u64 (X : Int)) (a2 := .int .u64 0) (a3 := .int .u64 0) HB3.out
    refine bodyPost_ret (v := .agg #[.int .u64 0, .int .u64 (X : Int), .int .u64 0, .int .u64 0]) (by simp [results, Tryz.results82, go_sem, c0, c1, c2, c3]) rfl ⟨by rw [show effD ts ⟨8, x, y, n, nx⟩ = ⟨0, X, 0, 0⟩ from by simp [effD, HX.out]]; rfl, below_set (below_set (below_set (below_set hb3 (by omega)) (by omega)) (by omega)) (by omega)⟩
  have b1 : (op == 1) = false := by simp [o1]
  have b2 : (op == 2) = false := by simp [o2]
  have b3 : (op == 3) = false := by simp [o3]
  have b4 : (op == 4) = false := by simp [o4]
  have b5 : (op == 5) = false := by simp [o5]
  have b6 : (op == 6) = false := by simp [o6]
  have b7 : (op == 7) = false := by simp [o7]
  have b8 : (op == 8) = false := by simp [o8]
  have he : effD ts ⟨op, x, y, n, nx⟩ = ⟨0, 0, 0, 0⟩ := by simp [effD, o1, o2, o3, o4, o5, o6, o7, o8]
  have HE := Lib.hid he
  clear o1 o2 o3 o4 o5 o6 o7 o8 he
  go_wp2_with fail
  obtain ⟨c0, c1, c2, c3⟩ := four_set (a0 := .int .u64 0) (a1 := .int .u64 0) (a2 := .int .u64 0) (a3 := .int .u64 0) HB3.out
  refine bodyPost_ret (v := .agg #[.int .u64 0, .int .u64 0, .int .u64 0, .int .u64 0]) (by simp [results, Tryz.results82, go_sem, c0, c1, c2, c3]) rfl ⟨by rw [HE.out]; rfl, below_set (below_set (below_set (below_set hb3 (by omega)) (by omega)) (by omega)) (by omega)⟩

end Go.Proofs.YtbffldgiccijlaaGreatDoor
