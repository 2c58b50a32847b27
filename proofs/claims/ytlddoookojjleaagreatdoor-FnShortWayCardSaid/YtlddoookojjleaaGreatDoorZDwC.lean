/-
  The model's draw of a statement and of a list of statements: shapes.
  The model's draw of lists of statements, and of statements that hold some.
  The model's ParseProgram: what it answers reads as a program.
  The model's draw of a program.
-/
import Derived.Test.YtlddoookojjleaaGreatDoorZDwB
import Derived.Test.YtlddoookojjleaaGreatDoorZDwA
import Derived.Deep.DeepCutAuto
import Derived.Test.YtlddoookojjleaaGreatDoorZTxX
import Derived.Test.YtlddoookojjleaaGreatDoorZBase
import Derived.Deep.RegionHeld3
namespace Go.Proofs.YtlddoookojjleaaGreatDoor
open Go.RowKit Go.Deep
set_option linter.unusedVariables false

theorem SrcV.setB {w : World} {R P g : Nat} (h : SrcV w R P) (hg : R < g) (o : Nat) (x : Value) : SrcV (w.setCell ⟨g, o, none⟩ x) R P := h.one ((One.refl g w).set o x) hg

theorem SrcV.alloc {w : World} {R P : Nat} (h : SrcV w R P) (o : Obj) : SrcV (w.alloc o) R P := h.below ((Below.refl _ _).alloc (Nat.le_refl _) o)

theorem But.alloc {R : Nat} {a b : World} (h : But R a b) (o : Obj) : But R a (b.alloc o) := h.trans (But.of_below ((Below.refl _ _).alloc (Nat.le_refl _) o) (Nat.le_refl _))

theorem But.refl (R : Nat) (w : World) : But R w w := ⟨rfl, rfl, rfl, Nat.le_refl _, fun _ _ _ => rfl⟩

/-- How many statements are drawn at most under one, and how many draws are taken for it. -/
def szB : Nat → Nat
  | 0 => 0
  | 1 => 4
  | _ => 12

def coB : Nat → Nat
  | 0 => 5
  | 1 => 30
  | _ => 100

def OneP (R P d : Nat) (w : World) (E : Ending) (w' : World) : Prop := ∃ r : StR, E = .returned (.agg #[.int .i64 r.op, .int .i64 r.x, .int .i64 r.y, .int .i64 r.n, .slice r.At r.t.len r.ct, .slice r.Ae r.e.len r.ce]) ∧
  RepV w' w.heap.size w'.heap.size r.t r.At r.ct ∧ RepV w' w.heap.size w'.heap.size r.e r.Ae r.ce ∧ r.t.size + r.e.size ≤ szB d ∧ SrcV w' R (P + coB d) ∧ But R w w'

theorem oneP_simple (R P d : Nat) (op x y n : Int) (w w' : World) (hs : SrcV w' R (P + coB d)) (hb : But R w w') :
    OneP R P d w (.returned (.agg #[.int .i64 op, .int .i64 x, .int .i64 y, .int .i64 n, .slice none 0 0, .slice none 0 0])) w' :=
  ⟨⟨op, x, y, n, .nil, .nil, none, 0, none, 0⟩, rfl, repV_nil0 _ _ _, repV_nil0 _ _ _, by simp [Sts.size], hs, hb⟩

def SomeP (R P d n : Nat) (w : World) (E : Ending) (w' : World) : Prop := ∃ (rs : List StR) (A : Option Addr) (c : Nat), E = .returned (.slice A rs.length c) ∧ RowS w' w.heap.size (.slice A rs.length c) rs ∧ rs.length = n + 1 ∧ szR rs ≤ 1 + n * (1 + szB d) ∧ SrcV w' R (P + 1 + n * coB d) ∧ But R w w'

set_option maxRecDepth 100000 in
set_option maxHeartbeats 4000000 in
theorem one_zero (R P : Nat) (T : Option Addr) (tn tc : Nat) (w : World) (hs : SrcV w R P) (hP : P ≤ 50000) :
    Calls Tryz.prog 64 #[.pointer (some ⟨R, 0, none⟩), .slice T tn tc, .int .i64 0] w (OneP R P 0 w) := by
  have hRw := hs.lt
  have hco5 : 5 ≤ coB 0 := Nat.le_refl _
  obtain ⟨w0, hw0⟩ : ∃ w0, w.alloc (.cells #[.int .i64 0, .int .i64 0, .int .i64 0, .int .i64 0, .slice none 0 0, .slice none 0 0] 86) = w0 := ⟨_, rfl⟩
  have hb0 := (Below.refl w.heap.size w).alloc (Nat.le_refl _) (.cells #[.int .i64 0, .int .i64 0, .int .i64 0, .int .i64 0, .slice none 0 0, .slice none 0 0] 86)
  have X0 := Lib.hid (heap_alloc_new w (.cells #[.int .i64 0, .int .i64 0, .int .i64 0, .int .i64 0, .slice none 0 0, .slice none 0 0] 86))
  have S0 := Lib.hid (hs.below hb0)
  have N0 := Lib.hid (But.of_below (R := R) hb0 (Nat.le_refl _))
  have hz0 : w.heap.size + 1 ≤ (w.alloc (.cells #[.int .i64 0, .int .i64 0, .int .i64 0, .int .i64 0, .slice none 0 0, .slice none 0 0] 86)).heap.size := Nat.le_of_eq (by simp)
  rw [hw0] at X0 S0 N0 hz0
  clear hb0 hs
  go_enter Tryz.func64, Tryz.ntmps64
  go_upto_region 1 with (fail)
  clear hw0
  have HK1 := Lib.hid (pick_any R P 2 w0 (by omega) (by omega) S0.out (by omega))
  go_wp2_with fail
  refine HK1.out.mono ?_
  rintro E u1 ⟨v1, hv1, rfl, ks1, ko1⟩
  have kz1 := Nat.le_of_eq ko1.size.symm
  have S1 := Lib.hid ks1
  have N1 := Lib.hid (N0.out.trans (But.of_one ko1))
  have X1 := Lib.hid ((ko1.block w.heap.size (by omega)).trans X0.out)
  clear ks1 ko1 HK1
  have hbx : IntKind.i64.wrap (1 + (v1 : Int)) = 1 + (v1 : Int) := IntWalk.i64_in _ (by omega)
  have kb2 := (Below.refl u1.heap.size u1).alloc (Nat.le_refl _) (.cells #[.int .i64 1, .int .i64 2, .int .i64 1, .int .i64 4, .int .i64 5] 3)
  have kq2 : u1.heap.size ≤ (u1.alloc (.cells #[.int .i64 1, .int .i64 2, .int .i64 1, .int .i64 4, .int .i64 5] 3)).heap.size := kb2.size
  have HK2 : Hid (Calls Tryz.prog 25 #[.pointer (some ⟨R, 0, none⟩), .slice (some ⟨u1.heap.size, 0, none⟩) 5 5] (u1.alloc (.cells #[.int .i64 1, .int .i64 2, .int .i64 1, .int .i64 4, .int .i64 5] 3)) _) := num_any R (P + 1) u1.heap.size [1, 2, 1, 4, 5] (u1.alloc (.cells #[.int .i64 1, .int .i64 2, .int .i64 1, .int .i64 4, .int .i64 5] 3)) (heap_alloc_new u1 _) (by omega) (by decide) (by decide) (S1.out.below kb2) (by omega)
  have NN2 := Lib.hid (N1.out.trans (But.of_below kb2 (Nat.le_refl _)))
  have XX2 := Lib.hid ((kb2.block w.heap.size (by omega)).trans X1.out)
  clear kb2
  go_wp2_with fail
  refine HK2.out.mono ?_
  rintro E u2 ⟨ow, how, rfl, ks2, ko2⟩
  have kz2 := Nat.le_of_eq ko2.size.symm
  have S2 := Lib.hid ks2
  have N2 := Lib.hid (NN2.out.trans (But.of_one ko2))
  have X2 := Lib.hid ((ko2.block w.heap.size (by omega)).trans XX2.out)
  have kr2 : u1.heap.size ≤ u2.heap.size := Nat.le_trans kq2 kz2
  clear ks2 ko2 HK2 how kz2 kq2
  have HK3 := Lib.hid (pick_any R (P + 1 + 1) 11 u2 (by omega) (by omega) S2.out (by omega))
  go_wp2_with fail
  refine HK3.out.mono ?_
  rintro E u3 ⟨v3, hv3, rfl, ks3, ko3⟩
  have kz3 := Nat.le_of_eq ko3.size.symm
  have S3 := Lib.hid ks3
  have N3 := Lib.hid (N2.out.trans (But.of_one ko3))
  have X3 := Lib.hid ((ko3.block w.heap.size (by omega)).trans X2.out)
  clear ks3 ko3 HK3
  obtain ⟨sw, hsw⟩ : ∃ sw : Int, (v3 : Int) = sw := ⟨_, rfl⟩
  have hcase : sw = 0 ∨ sw = 1 ∨ sw = 2 ∨ sw = 3 ∨ sw = 4 ∨ sw = 5 ∨ sw = 6 ∨ sw = 7 ∨ sw = 8 ∨ sw = 9 ∨ sw = 10 := by omega
  rw [hsw]
  clear hsw hv3
  rcases hcase with rfl | rfl | rfl | rfl | rfl | rfl | rfl | rfl | rfl | rfl | rfl
  · have HK4 := Lib.hid (pick_any R (P + 1 + 1 + 1) 10 u3 (by omega) (by omega) S3.out (by omega))
    go_wp2_with fail
    refine HK4.out.mono ?_
    rintro E u4 ⟨q, hq, rfl, ks4, ko4⟩
    have kz4 := Nat.le_of_eq ko4.size.symm
    have S4 := Lib.hid ks4
    have N4 := Lib.hid (N3.out.trans (But.of_one ko4))
    have X4 := Lib.hid ((ko4.block w.heap.size (by omega)).trans X3.out)
    clear ks4 ko4 HK4
    have hX := X4.out
    have z0 : u4.cell? ⟨w.heap.size, 0, none⟩ = some (.int .i64 0) := (cell_of_block hX 0).trans rfl
    have y0 := frozen_of_block hX 0
    have z1 : u4.cell? ⟨w.heap.size, 1, none⟩ = some (.int .i64 0) := (cell_of_block hX 1).trans rfl
    have y1 := frozen_of_block hX 1
    have z2 : u4.cell? ⟨w.heap.size, 2, none⟩ = some (.int .i64 0) := (cell_of_block hX 2).trans rfl
    have y2 := frozen_of_block hX 2
    have z3 : u4.cell? ⟨w.heap.size, 3, none⟩ = some (.int .i64 0) := (cell_of_block hX 3).trans rfl
    have y3 := frozen_of_block hX 3
    have z4 : u4.cell? ⟨w.heap.size, 4, none⟩ = some (.slice none 0 0) := (cell_of_block hX 4).trans rfl
    have y4 := frozen_of_block hX 4
    have z5 : u4.cell? ⟨w.heap.size, 5, none⟩ = some (.slice none 0 0) := (cell_of_block hX 5).trans rfl
    have y5 := frozen_of_block hX 5
    clear hX
    go_wp2_with fail
    refine bodyPost_ret (v := .agg #[.int .i64 1, .int .i64 0, .int .i64 0, .int .i64 (q : Int), .slice none 0 0, .slice none 0 0]) (by simp [results, Tryz.results64, go_sem, z0, z1, z2, z3, z4, z5]) rfl (oneP_simple R P 0 _ _ _ _ w _ ?_ ?_)
    · repeat (refine SrcV.setB ?_ (by omega) _ _)
      exact S4.out.more (by omega)
    · repeat (refine But.setCell ?_ (Nat.le_refl _) _)
      exact N4.out
  · have HK4 := Lib.hid (pick_any R (P + 1 + 1 + 1) 10 u3 (by omega) (by omega) S3.out (by omega))
    go_wp2_with fail
    refine HK4.out.mono ?_
    rintro E u4 ⟨q, hq, rfl, ks4, ko4⟩
    have kz4 := Nat.le_of_eq ko4.size.symm
    have S4 := Lib.hid ks4
    have N4 := Lib.hid (N3.out.trans (But.of_one ko4))
    have X4 := Lib.hid ((ko4.block w.heap.size (by omega)).trans X3.out)
    clear ks4 ko4 HK4
    have hX := X4.out
    have z0 : u4.cell? ⟨w.heap.size, 0, none⟩ = some (.int .i64 0) := (cell_of_block hX 0).trans rfl
    have y0 := frozen_of_block hX 0
    have z1 : u4.cell? ⟨w.heap.size, 1, none⟩ = some (.int .i64 0) := (cell_of_block hX 1).trans rfl
    have y1 := frozen_of_block hX 1
    have z2 : u4.cell? ⟨w.heap.size, 2, none⟩ = some (.int .i64 0) := (cell_of_block hX 2).trans rfl
    have y2 := frozen_of_block hX 2
    have z3 : u4.cell? ⟨w.heap.size, 3, none⟩ = some (.int .i64 0) := (cell_of_block hX 3).trans rfl
    have y3 := frozen_of_block hX 3
    have z4 : u4.cell? ⟨w.heap.size, 4, none⟩ = some (.slice none 0 0) := (cell_of_block hX 4).trans rfl
    have y4 := frozen_of_block hX 4
    have z5 : u4.cell? ⟨w.heap.size, 5, none⟩ = some (.slice none 0 0) := (cell_of_block hX 5).trans rfl
    have y5 := frozen_of_block hX 5
    clear hX
    go_wp2_with fail
    refine bodyPost_ret (v := .agg #[.int .i64 2, .int .i64 (1 + (v1 : Int)), .int .i64 0, .int .i64 (q : Int), .slice none 0 0, .slice none 0 0]) (by simp [results, Tryz.results64, go_sem, z0, z1, z2, z3, z4, z5]) rfl (oneP_simple R P 0 _ _ _ _ w _ ?_ ?_)
    · repeat (refine SrcV.setB ?_ (by omega) _ _)
      exact S4.out.more (by omega)
    · repeat (refine But.setCell ?_ (Nat.le_refl _) _)
      exact N4.out
  · have h3 : IntKind.i64.wrap (3 - (1 + (v1 : Int))) = 3 - (1 + (v1 : Int)) := IntWalk.i64_in _ (by omega)
    have hX := X3.out
    have z0 : u3.cell? ⟨w.heap.size, 0, none⟩ = some (.int .i64 0) := (cell_of_block hX 0).trans rfl
    have y0 := frozen_of_block hX 0
    have z1 : u3.cell? ⟨w.heap.size, 1, none⟩ = some (.int .i64 0) := (cell_of_block hX 1).trans rfl
    have y1 := frozen_of_block hX 1
    have z2 : u3.cell? ⟨w.heap.size, 2, none⟩ = some (.int .i64 0) := (cell_of_block hX 2).trans rfl
    have y2 := frozen_of_block hX 2
    have z3 : u3.cell? ⟨w.heap.size, 3, none⟩ = some (.int .i64 0) := (cell_of_block hX 3).trans rfl
    have y3 := frozen_of_block hX 3
    have z4 : u3.cell? ⟨w.heap.size, 4, none⟩ = some (.slice none 0 0) := (cell_of_block hX 4).trans rfl
    have y4 := frozen_of_block hX 4
    have z5 : u3.cell? ⟨w.heap.size, 5, none⟩ = some (.slice none 0 0) := (cell_of_block hX 5).trans rfl
    have y5 := frozen_of_block hX 5
    clear hX
    go_wp2_with fail
    refine bodyPost_ret (v := .agg #[.int .i64 3, .int .i64 (1 + (v1 : Int)), .int .i64 (3 - (1 + (v1 : Int))), .int .i64 0, .slice none 0 0, .slice none 0 0]) (by simp [results, Tryz.results64, go_sem, z0, z1, z2, z3, z4, z5]) rfl (oneP_simple R P 0 _ _ _ _ w _ ?_ ?_)
    · repeat (refine SrcV.setB ?_ (by omega) _ _)
      exact S3.out.more (by omega)
    · repeat (refine But.setCell ?_ (Nat.le_refl _) _)
      exact N3.out
  · have hX := X3.out
    have z0 : u3.cell? ⟨w.heap.size, 0, none⟩ = some (.int .i64 0) := (cell_of_block hX 0).trans rfl
    have y0 := frozen_of_block hX 0
    have z1 : u3.cell? ⟨w.heap.size, 1, none⟩ = some (.int .i64 0) := (cell_of_block hX 1).trans rfl
    have y1 := frozen_of_block hX 1
    have z2 : u3.cell? ⟨w.heap.size, 2, none⟩ = some (.int .i64 0) := (cell_of_block hX 2).trans rfl
    have y2 := frozen_of_block hX 2
    have z3 : u3.cell? ⟨w.heap.size, 3, none⟩ = some (.int .i64 0) := (cell_of_block hX 3).trans rfl
    have y3 := frozen_of_block hX 3
    have z4 : u3.cell? ⟨w.heap.size, 4, none⟩ = some (.slice none 0 0) := (cell_of_block hX 4).trans rfl
    have y4 := frozen_of_block hX 4
    have z5 : u3.cell? ⟨w.heap.size, 5, none⟩ = some (.slice none 0 0) := (cell_of_block hX 5).trans rfl
    have y5 := frozen_of_block hX 5
    clear hX
    go_wp2_with fail
    refine bodyPost_ret (v := .agg #[.int .i64 4, .int .i64 3, .int .i64 ow, .int .i64 0, .slice none 0 0, .slice none 0 0]) (by simp [results, Tryz.results64, go_sem, z0, z1, z2, z3, z4, z5]) rfl (oneP_simple R P 0 _ _ _ _ w _ ?_ ?_)
    · repeat (refine SrcV.setB ?_ (by omega) _ _)
      exact S3.out.more (by omega)
    · repeat (refine But.setCell ?_ (Nat.le_refl _) _)
      exact N3.out
  · have kb4 := (Below.refl u3.heap.size u3).alloc (Nat.le_refl _) (.cells #[.int .i64 1, .int .i64 2, .int .i64 1, .int .i64 5] 3)
    have kq4 : u3.heap.size ≤ (u3.alloc (.cells #[.int .i64 1, .int .i64 2, .int .i64 1, .int .i64 5] 3)).heap.size := kb4.size
    have HK4 : Hid (Calls Tryz.prog 25 #[.pointer (some ⟨R, 0, none⟩), .slice (some ⟨u3.heap.size, 0, none⟩) 4 4] (u3.alloc (.cells #[.int .i64 1, .int .i64 2, .int .i64 1, .int .i64 5] 3)) _) := num_any R (P + 1 + 1 + 1) u3.heap.size [1, 2, 1, 5] (u3.alloc (.cells #[.int .i64 1, .int .i64 2, .int .i64 1, .int .i64 5] 3)) (heap_alloc_new u3 _) (by omega) (by decide) (by decide) (S3.out.below kb4) (by omega)
    have NN4 := Lib.hid (N3.out.trans (But.of_below kb4 (Nat.le_refl _)))
    have XX4 := Lib.hid ((kb4.block w.heap.size (by omega)).trans X3.out)
    clear kb4
    go_wp2_with fail
    refine HK4.out.mono ?_
    rintro E u4 ⟨q, hq, rfl, ks4, ko4⟩
    have kz4 := Nat.le_of_eq ko4.size.symm
    have S4 := Lib.hid ks4
    have N4 := Lib.hid (NN4.out.trans (But.of_one ko4))
    have X4 := Lib.hid ((ko4.block w.heap.size (by omega)).trans XX4.out)
    have kr4 : u3.heap.size ≤ u4.heap.size := Nat.le_trans kq4 kz4
    clear ks4 ko4 HK4 hq kz4 kq4
    have hX := X4.out
    have z0 : u4.cell? ⟨w.heap.size, 0, none⟩ = some (.int .i64 0) := (cell_of_block hX 0).trans rfl
    have y0 := frozen_of_block hX 0
    have z1 : u4.cell? ⟨w.heap.size, 1, none⟩ = some (.int .i64 0) := (cell_of_block hX 1).trans rfl
    have y1 := frozen_of_block hX 1
    have z2 : u4.cell? ⟨w.heap.size, 2, none⟩ = some (.int .i64 0) := (cell_of_block hX 2).trans rfl
    have y2 := frozen_of_block hX 2
    have z3 : u4.cell? ⟨w.heap.size, 3, none⟩ = some (.int .i64 0) := (cell_of_block hX 3).trans rfl
    have y3 := frozen_of_block hX 3
    have z4 : u4.cell? ⟨w.heap.size, 4, none⟩ = some (.slice none 0 0) := (cell_of_block hX 4).trans rfl
    have y4 := frozen_of_block hX 4
    have z5 : u4.cell? ⟨w.heap.size, 5, none⟩ = some (.slice none 0 0) := (cell_of_block hX 5).trans rfl
    have y5 := frozen_of_block hX 5
    clear hX
    go_wp2_with fail
    refine bodyPost_ret (v := .agg #[.int .i64 5, .int .i64 4, .int .i64 q, .int .i64 0, .slice none 0 0, .slice none 0 0]) (by simp [results, Tryz.results64, go_sem, z0, z1, z2, z3, z4, z5]) rfl (oneP_simple R P 0 _ _ _ _ w _ ?_ ?_)
    · repeat (refine SrcV.setB ?_ (by omega) _ _)
      exact S4.out.more (by omega)
    · repeat (refine But.setCell ?_ (Nat.le_refl _) _)
      exact N4.out
  · have kb4 := (Below.refl u3.heap.size u3).alloc (Nat.le_refl _) (.cells #[.int .i64 1, .int .i64 2, .int .i64 1, .int .i64 5] 3)
    have kq4 : u3.heap.size ≤ (u3.alloc (.cells #[.int .i64 1, .int .i64 2, .int .i64 1, .int .i64 5] 3)).heap.size := kb4.size
    have HK4 : Hid (Calls Tryz.prog 25 #[.pointer (some ⟨R, 0, none⟩), .slice (some ⟨u3.heap.size, 0, none⟩) 4 4] (u3.alloc (.cells #[.int .i64 1, .int .i64 2, .int .i64 1, .int .i64 5] 3)) _) := num_any R (P + 1 + 1 + 1) u3.heap.size [1, 2, 1, 5] (u3.alloc (.cells #[.int .i64 1, .int .i64 2, .int .i64 1, .int .i64 5] 3)) (heap_alloc_new u3 _) (by omega) (by decide) (by decide) (S3.out.below kb4) (by omega)
    have NN4 := Lib.hid (N3.out.trans (But.of_below kb4 (Nat.le_refl _)))
    have XX4 := Lib.hid ((kb4.block w.heap.size (by omega)).trans X3.out)
    clear kb4
    go_wp2_with fail
    refine HK4.out.mono ?_
    rintro E u4 ⟨q, hq, rfl, ks4, ko4⟩
    have kz4 := Nat.le_of_eq ko4.size.symm
    have S4 := Lib.hid ks4
    have N4 := Lib.hid (NN4.out.trans (But.of_one ko4))
    have X4 := Lib.hid ((ko4.block w.heap.size (by omega)).trans XX4.out)
    have kr4 : u3.heap.size ≤ u4.heap.size := Nat.le_trans kq4 kz4
    clear ks4 ko4 HK4 hq kz4 kq4
    have hX := X4.out
    have z0 : u4.cell? ⟨w.heap.size, 0, none⟩ = some (.int .i64 0) := (cell_of_block hX 0).trans rfl
    have y0 := frozen_of_block hX 0
    have z1 : u4.cell? ⟨w.heap.size, 1, none⟩ = some (.int .i64 0) := (cell_of_block hX 1).trans rfl
    have y1 := frozen_of_block hX 1
    have z2 : u4.cell? ⟨w.heap.size, 2, none⟩ = some (.int .i64 0) := (cell_of_block hX 2).trans rfl
    have y2 := frozen_of_block hX 2
    have z3 : u4.cell? ⟨w.heap.size, 3, none⟩ = some (.int .i64 0) := (cell_of_block hX 3).trans rfl
    have y3 := frozen_of_block hX 3
    have z4 : u4.cell? ⟨w.heap.size, 4, none⟩ = some (.slice none 0 0) := (cell_of_block hX 4).trans rfl
    have y4 := frozen_of_block hX 4
    have z5 : u4.cell? ⟨w.heap.size, 5, none⟩ = some (.slice none 0 0) := (cell_of_block hX 5).trans rfl
    have y5 := frozen_of_block hX 5
    clear hX
    go_wp2_with fail
    refine bodyPost_ret (v := .agg #[.int .i64 5, .int .i64 4, .int .i64 q, .int .i64 0, .slice none 0 0, .slice none 0 0]) (by simp [results, Tryz.results64, go_sem, z0, z1, z2, z3, z4, z5]) rfl (oneP_simple R P 0 _ _ _ _ w _ ?_ ?_)
    · repeat (refine SrcV.setB ?_ (by omega) _ _)
      exact S4.out.more (by omega)
    · repeat (refine But.setCell ?_ (Nat.le_refl _) _)
      exact N4.out
  · have kb4 := (Below.refl u3.heap.size u3).alloc (Nat.le_refl _) (.cells #[.int .i64 3, .int .i64 4, .int .i64 1, .int .i64 2, .int .i64 5] 3)
    have kq4 : u3.heap.size ≤ (u3.alloc (.cells #[.int .i64 3, .int .i64 4, .int .i64 1, .int .i64 2, .int .i64 5] 3)).heap.size := kb4.size
    have HK4 : Hid (Calls Tryz.prog 25 #[.pointer (some ⟨R, 0, none⟩), .slice (some ⟨u3.heap.size, 0, none⟩) 5 5] (u3.alloc (.cells #[.int .i64 3, .int .i64 4, .int .i64 1, .int .i64 2, .int .i64 5] 3)) _) := num_any R (P + 1 + 1 + 1) u3.heap.size [3, 4, 1, 2, 5] (u3.alloc (.cells #[.int .i64 3, .int .i64 4, .int .i64 1, .int .i64 2, .int .i64 5] 3)) (heap_alloc_new u3 _) (by omega) (by decide) (by decide) (S3.out.below kb4) (by omega)
    have NN4 := Lib.hid (N3.out.trans (But.of_below kb4 (Nat.le_refl _)))
    have XX4 := Lib.hid ((kb4.block w.heap.size (by omega)).trans X3.out)
    clear kb4
    go_wp2_with fail
    refine HK4.out.mono ?_
    rintro E u4 ⟨q, hq, rfl, ks4, ko4⟩
    have kz4 := Nat.le_of_eq ko4.size.symm
    have S4 := Lib.hid ks4
    have N4 := Lib.hid (NN4.out.trans (But.of_one ko4))
    have X4 := Lib.hid ((ko4.block w.heap.size (by omega)).trans XX4.out)
    have kr4 : u3.heap.size ≤ u4.heap.size := Nat.le_trans kq4 kz4
    clear ks4 ko4 HK4 hq kz4 kq4
    have hX := X4.out
    have z0 : u4.cell? ⟨w.heap.size, 0, none⟩ = some (.int .i64 0) := (cell_of_block hX 0).trans rfl
    have y0 := frozen_of_block hX 0
    have z1 : u4.cell? ⟨w.heap.size, 1, none⟩ = some (.int .i64 0) := (cell_of_block hX 1).trans rfl
    have y1 := frozen_of_block hX 1
    have z2 : u4.cell? ⟨w.heap.size, 2, none⟩ = some (.int .i64 0) := (cell_of_block hX 2).trans rfl
    have y2 := frozen_of_block hX 2
    have z3 : u4.cell? ⟨w.heap.size, 3, none⟩ = some (.int .i64 0) := (cell_of_block hX 3).trans rfl
    have y3 := frozen_of_block hX 3
    have z4 : u4.cell? ⟨w.heap.size, 4, none⟩ = some (.slice none 0 0) := (cell_of_block hX 4).trans rfl
    have y4 := frozen_of_block hX 4
    have z5 : u4.cell? ⟨w.heap.size, 5, none⟩ = some (.slice none 0 0) := (cell_of_block hX 5).trans rfl
    have y5 := frozen_of_block hX 5
    clear hX
    go_wp2_with fail
    refine bodyPost_ret (v := .agg #[.int .i64 6, .int .i64 0, .int .i64 q, .int .i64 0, .slice none 0 0, .slice none 0 0]) (by simp [results, Tryz.results64, go_sem, z0, z1, z2, z3, z4, z5]) rfl (oneP_simple R P 0 _ _ _ _ w _ ?_ ?_)
    · repeat (refine SrcV.setB ?_ (by omega) _ _)
      exact S4.out.more (by omega)
    · repeat (refine But.setCell ?_ (Nat.le_refl _) _)
      exact N4.out
  · have kb4 := (Below.refl u3.heap.size u3).alloc (Nat.le_refl _) (.cells #[.int .i64 4, .int .i64 1, .int .i64 2, .int .i64 5] 3)
    have kq4 : u3.heap.size ≤ (u3.alloc (.cells #[.int .i64 4, .int .i64 1, .int .i64 2, .int .i64 5] 3)).heap.size := kb4.size
    have HK4 : Hid (Calls Tryz.prog 25 #[.pointer (some ⟨R, 0, none⟩), .slice (some ⟨u3.heap.size, 0, none⟩) 4 4] (u3.alloc (.cells #[.int .i64 4, .int .i64 1, .int .i64 2, .int .i64 5] 3)) _) := num_any R (P + 1 + 1 + 1) u3.heap.size [4, 1, 2, 5] (u3.alloc (.cells #[.int .i64 4, .int .i64 1, .int .i64 2, .int .i64 5] 3)) (heap_alloc_new u3 _) (by omega) (by decide) (by decide) (S3.out.below kb4) (by omega)
    have NN4 := Lib.hid (N3.out.trans (But.of_below kb4 (Nat.le_refl _)))
    have XX4 := Lib.hid ((kb4.block w.heap.size (by omega)).trans X3.out)
    clear kb4
    go_wp2_with fail
    refine HK4.out.mono ?_
    rintro E u4 ⟨q, hq, rfl, ks4, ko4⟩
    have kz4 := Nat.le_of_eq ko4.size.symm
    have S4 := Lib.hid ks4
    have N4 := Lib.hid (NN4.out.trans (But.of_one ko4))
    have X4 := Lib.hid ((ko4.block w.heap.size (by omega)).trans XX4.out)
    have kr4 : u3.heap.size ≤ u4.heap.size := Nat.le_trans kq4 kz4
    clear ks4 ko4 HK4 hq kz4 kq4
    have hX := X4.out
    have z0 : u4.cell? ⟨w.heap.size, 0, none⟩ = some (.int .i64 0) := (cell_of_block hX 0).trans rfl
    have y0 := frozen_of_block hX 0
    have z1 : u4.cell? ⟨w.heap.size, 1, none⟩ = some (.int .i64 0) := (cell_of_block hX 1).trans rfl
    have y1 := frozen_of_block hX 1
    have z2 : u4.cell? ⟨w.heap.size, 2, none⟩ = some (.int .i64 0) := (cell_of_block hX 2).trans rfl
    have y2 := frozen_of_block hX 2
    have z3 : u4.cell? ⟨w.heap.size, 3, none⟩ = some (.int .i64 0) := (cell_of_block hX 3).trans rfl
    have y3 := frozen_of_block hX 3
    have z4 : u4.cell? ⟨w.heap.size, 4, none⟩ = some (.slice none 0 0) := (cell_of_block hX 4).trans rfl
    have y4 := frozen_of_block hX 4
    have z5 : u4.cell? ⟨w.heap.size, 5, none⟩ = some (.slice none 0 0) := (cell_of_block hX 5).trans rfl
    have y5 := frozen_of_block hX 5
    clear hX
    go_wp2_with fail
    refine bodyPost_ret (v := .agg #[.int .i64 7, .int .i64 q, .int .i64 0, .int .i64 0, .slice none 0 0, .slice none 0 0]) (by simp [results, Tryz.results64, go_sem, z0, z1, z2, z3, z4, z5]) rfl (oneP_simple R P 0 _ _ _ _ w _ ?_ ?_)
    · repeat (refine SrcV.setB ?_ (by omega) _ _)
      exact S4.out.more (by omega)
    · repeat (refine But.setCell ?_ (Nat.le_refl _) _)
      exact N4.out
  · have hX := X3.out
    have z0 : u3.cell? ⟨w.heap.size, 0, none⟩ = some (.int .i64 0) := (cell_of_block hX 0).trans rfl
    have y0 := frozen_of_block hX 0
    have z1 : u3.cell? ⟨w.heap.size, 1, none⟩ = some (.int .i64 0) := (cell_of_block hX 1).trans rfl
    have y1 := frozen_of_block hX 1
    have z2 : u3.cell? ⟨w.heap.size, 2, none⟩ = some (.int .i64 0) := (cell_of_block hX 2).trans rfl
    have y2 := frozen_of_block hX 2
    have z3 : u3.cell? ⟨w.heap.size, 3, none⟩ = some (.int .i64 0) := (cell_of_block hX 3).trans rfl
    have y3 := frozen_of_block hX 3
    have z4 : u3.cell? ⟨w.heap.size, 4, none⟩ = some (.slice none 0 0) := (cell_of_block hX 4).trans rfl
    have y4 := frozen_of_block hX 4
    have z5 : u3.cell? ⟨w.heap.size, 5, none⟩ = some (.slice none 0 0) := (cell_of_block hX 5).trans rfl
    have y5 := frozen_of_block hX 5
    clear hX
    go_wp2_with fail
    refine bodyPost_ret (v := .agg #[.int .i64 8, .int .i64 (1 + (v1 : Int)), .int .i64 0, .int .i64 0, .slice none 0 0, .slice none 0 0]) (by simp [results, Tryz.results64, go_sem, z0, z1, z2, z3, z4, z5]) rfl (oneP_simple R P 0 _ _ _ _ w _ ?_ ?_)
    · repeat (refine SrcV.setB ?_ (by omega) _ _)
      exact S3.out.more (by omega)
    · repeat (refine But.setCell ?_ (Nat.le_refl _) _)
      exact N3.out
  · have kb4 := (Below.refl u3.heap.size u3).alloc (Nat.le_refl _) (.cells #[.int .i64 4, .int .i64 1, .int .i64 2] 3)
    have kq4 : u3.heap.size ≤ (u3.alloc (.cells #[.int .i64 4, .int .i64 1, .int .i64 2] 3)).heap.size := kb4.size
    have HK4 : Hid (Calls Tryz.prog 25 #[.pointer (some ⟨R, 0, none⟩), .slice (some ⟨u3.heap.size, 0, none⟩) 3 3] (u3.alloc (.cells #[.int .i64 4, .int .i64 1, .int .i64 2] 3)) _) := num_any R (P + 1 + 1 + 1) u3.heap.size [4, 1, 2] (u3.alloc (.cells #[.int .i64 4, .int .i64 1, .int .i64 2] 3)) (heap_alloc_new u3 _) (by omega) (by decide) (by decide) (S3.out.below kb4) (by omega)
    have NN4 := Lib.hid (N3.out.trans (But.of_below kb4 (Nat.le_refl _)))
    have XX4 := Lib.hid ((kb4.block w.heap.size (by omega)).trans X3.out)
    clear kb4
    go_wp2_with fail
    refine HK4.out.mono ?_
    rintro E u4 ⟨q, hq, rfl, ks4, ko4⟩
    have kz4 := Nat.le_of_eq ko4.size.symm
    have S4 := Lib.hid ks4
    have N4 := Lib.hid (NN4.out.trans (But.of_one ko4))
    have X4 := Lib.hid ((ko4.block w.heap.size (by omega)).trans XX4.out)
    have kr4 : u3.heap.size ≤ u4.heap.size := Nat.le_trans kq4 kz4
    clear ks4 ko4 HK4 hq kz4 kq4
    have hX := X4.out
    have z0 : u4.cell? ⟨w.heap.size, 0, none⟩ = some (.int .i64 0) := (cell_of_block hX 0).trans rfl
    have y0 := frozen_of_block hX 0
    have z1 : u4.cell? ⟨w.heap.size, 1, none⟩ = some (.int .i64 0) := (cell_of_block hX 1).trans rfl
    have y1 := frozen_of_block hX 1
    have z2 : u4.cell? ⟨w.heap.size, 2, none⟩ = some (.int .i64 0) := (cell_of_block hX 2).trans rfl
    have y2 := frozen_of_block hX 2
    have z3 : u4.cell? ⟨w.heap.size, 3, none⟩ = some (.int .i64 0) := (cell_of_block hX 3).trans rfl
    have y3 := frozen_of_block hX 3
    have z4 : u4.cell? ⟨w.heap.size, 4, none⟩ = some (.slice none 0 0) := (cell_of_block hX 4).trans rfl
    have y4 := frozen_of_block hX 4
    have z5 : u4.cell? ⟨w.heap.size, 5, none⟩ = some (.slice none 0 0) := (cell_of_block hX 5).trans rfl
    have y5 := frozen_of_block hX 5
    clear hX
    go_wp2_with fail
    refine bodyPost_ret (v := .agg #[.int .i64 5, .int .i64 5, .int .i64 q, .int .i64 0, .slice none 0 0, .slice none 0 0]) (by simp [results, Tryz.results64, go_sem, z0, z1, z2, z3, z4, z5]) rfl (oneP_simple R P 0 _ _ _ _ w _ ?_ ?_)
    · repeat (refine SrcV.setB ?_ (by omega) _ _)
      exact S4.out.more (by omega)
    · repeat (refine But.setCell ?_ (Nat.le_refl _) _)
      exact N4.out
  · have kb4 := (Below.refl u3.heap.size u3).alloc (Nat.le_refl _) (.cells #[.int .i64 4, .int .i64 1, .int .i64 2] 3)
    have kq4 : u3.heap.size ≤ (u3.alloc (.cells #[.int .i64 4, .int .i64 1, .int .i64 2] 3)).heap.size := kb4.size
    have HK4 : Hid (Calls Tryz.prog 25 #[.pointer (some ⟨R, 0, none⟩), .slice (some ⟨u3.heap.size, 0, none⟩) 3 3] (u3.alloc (.cells #[.int .i64 4, .int .i64 1, .int .i64 2] 3)) _) := num_any R (P + 1 + 1 + 1) u3.heap.size [4, 1, 2] (u3.alloc (.cells #[.int .i64 4, .int .i64 1, .int .i64 2] 3)) (heap_alloc_new u3 _) (by omega) (by decide) (by decide) (S3.out.below kb4) (by omega)
    have NN4 := Lib.hid (N3.out.trans (But.of_below kb4 (Nat.le_refl _)))
    have XX4 := Lib.hid ((kb4.block w.heap.size (by omega)).trans X3.out)
    clear kb4
    go_wp2_with fail
    refine HK4.out.mono ?_
    rintro E u4 ⟨q, hq, rfl, ks4, ko4⟩
    have kz4 := Nat.le_of_eq ko4.size.symm
    have S4 := Lib.hid ks4
    have N4 := Lib.hid (NN4.out.trans (But.of_one ko4))
    have X4 := Lib.hid ((ko4.block w.heap.size (by omega)).trans XX4.out)
    have kr4 : u3.heap.size ≤ u4.heap.size := Nat.le_trans kq4 kz4
    clear ks4 ko4 HK4 hq kz4 kq4
    have hX := X4.out
    have z0 : u4.cell? ⟨w.heap.size, 0, none⟩ = some (.int .i64 0) := (cell_of_block hX 0).trans rfl
    have y0 := frozen_of_block hX 0
    have z1 : u4.cell? ⟨w.heap.size, 1, none⟩ = some (.int .i64 0) := (cell_of_block hX 1).trans rfl
    have y1 := frozen_of_block hX 1
    have z2 : u4.cell? ⟨w.heap.size, 2, none⟩ = some (.int .i64 0) := (cell_of_block hX 2).trans rfl
    have y2 := frozen_of_block hX 2
    have z3 : u4.cell? ⟨w.heap.size, 3, none⟩ = some (.int .i64 0) := (cell_of_block hX 3).trans rfl
    have y3 := frozen_of_block hX 3
    have z4 : u4.cell? ⟨w.heap.size, 4, none⟩ = some (.slice none 0 0) := (cell_of_block hX 4).trans rfl
    have y4 := frozen_of_block hX 4
    have z5 : u4.cell? ⟨w.heap.size, 5, none⟩ = some (.slice none 0 0) := (cell_of_block hX 5).trans rfl
    have y5 := frozen_of_block hX 5
    clear hX
    go_wp2_with fail
    refine bodyPost_ret (v := .agg #[.int .i64 5, .int .i64 5, .int .i64 q, .int .i64 0, .slice none 0 0, .slice none 0 0]) (by simp [results, Tryz.results64, go_sem, z0, z1, z2, z3, z4, z5]) rfl (oneP_simple R P 0 _ _ _ _ w _ ?_ ?_)
    · repeat (refine SrcV.setB ?_ (by omega) _ _)
      exact S4.out.more (by omega)
    · repeat (refine But.setCell ?_ (Nat.le_refl _) _)
      exact N4.out

end Go.Proofs.YtlddoookojjleaaGreatDoor

namespace Go.Proofs.YtlddoookojjleaaGreatDoor
open Go.RowKit Go.Deep
set_option linter.unusedVariables false

theorem RowS.lit (w : World) (B : Nat) (rs : List StR) (cs : Array Value) (n : Nat) (hcs : cs = (rs.flatMap StR.cells).toArray) (hn : rs.length = n) (hB : B ≤ w.heap.size) (hl : n ≤ 1000)
    (hf : ∀ r ∈ rs, RepV w B w.heap.size r.t r.At r.ct ∧ RepV w B w.heap.size r.e r.Ae r.ce) : RowS (w.alloc (.cells cs 86)) B (.slice (some ⟨w.heap.size, 0, none⟩) n n) rs := by
  subst hn hcs
  refine ⟨?_, fun r hr => ?_⟩
  · have := World.ownsRow_lit (base := B) (e := 86) (size := 6) w (rs.flatMap StR.cells).toArray rs.length hB (by unfold maxLen; omega) (by simp [flatS_len StR.cells_length])
    simpa using this
  · have hh : ∀ {A c s}, RepV w B w.heap.size s A c → Firm (w.alloc (.cells (rs.flatMap StR.cells).toArray 86)) B (Value.slice (some ⟨w.heap.size, 0, none⟩) rs.length rs.length).ownBlock A c s := fun {A c s} h =>
      (Firm.of_rep (g := none) h (fun k hk => by cases hk)).move (by simp) (fun k _ h2 _ => ((Below.refl _ _).alloc (Nat.le_refl _) _).block k h2) (.inr fun k hk => by
        have : w.heap.size = k := by simpa [Value.ownBlock] using hk
        omega)
    exact ⟨hh (hf r hr).1, hh (hf r hr).2⟩

theorem RepV.but {w w' : World} {R lo : Nat} {s : Sts} {A : Option Addr} {c : Nat} (h : RepV w lo w.heap.size s A c) (hb : But R w w') (hR : R < lo) : RepV w' lo w'.heap.size s A c :=
  h.keep (Nat.le_refl _) hb.size fun p h1 h2 => World.cell?_of_block (hb.block p.block h2 (by omega))

theorem SrcV.keepR {w w' : World} {R P : Nat} (h : SrcV w R P) (hb : ∀ k, k ≤ R → w'.heap[k]? = w.heap[k]?) : SrcV w' R P := by
  obtain ⟨n, c, A, p, hR, hB, hp⟩ := h
  refine ⟨n, c, A, p, (hb R (Nat.le_refl _)).trans hR, ⟨hB.1, hB.2.1, fun hn => ?_⟩, hp⟩
  obtain ⟨b, rfl, hbb, hc⟩ := hB.2.2 hn
  refine ⟨b, rfl, hbb, fun j hj => ?_⟩
  obtain ⟨v, hv, h0, h1⟩ := hc j hj
  exact ⟨v, (World.cell?_of_block (hb _ (by rw [block_add]; omega))).trans hv, h0, h1⟩

theorem coB_le (D : Nat) : coB D ≤ 100 := by unfold coB; split <;> omega

set_option maxRecDepth 100000 in
set_option maxHeartbeats 2000000 in
theorem some_of (R D L : Nat) (hL : L ≤ 60000) (e : Int) (T : Option Addr) (tn tc : Nat) (HO : ∀ (P : Nat) (w : World), P ≤ L + 1000 → SrcV w R P → Calls Tryz.prog 64 #[.pointer (some ⟨R, 0, none⟩), .slice T tn tc, .int .i64 e] w (OneP R P D w))
    (n P : Nat) (w : World) (hn : n ≤ 8) (hP : P ≤ L) (hs : SrcV w R P) :
    Calls Tryz.prog 57 #[.pointer (some ⟨R, 0, none⟩), .slice T tn tc, .int .i64 e, .int .i64 (n : Int)] w (SomeP R P D n w) := by
  have hRw := hs.lt
  have HK := Lib.hid (pick_any R P 10 w (by omega) (by omega) hs (by omega))
  replace HO := Lib.hid HO
  have hco := coB_le D
  obtain ⟨i0, hi, hz0, hz1, hz2⟩ := info_parts Tryz.infoStmt
  have HI := Lib.hid hi
  have HZ0 := Lib.hid hz0
  have HZ1 := Lib.hid hz1
  have HZ2 := Lib.hid hz2
  clear hi hz0 hz1 hz2 hs
  go_enter Tryz.func57, Tryz.ntmps57
  go_wp2_with fail
  refine HK.out.mono ?_
  rintro E w1 ⟨v, hv, rfl, hs1, ho1⟩
  have hz1 : w.heap.size ≤ w1.heap.size := Nat.le_of_eq ho1.size.symm
  have hba := (Below.refl w1.heap.size w1).alloc (Nat.le_refl _) (.cells #[.int .i64 2, .int .i64 1, .int .i64 0, .int .i64 (v : Int), .slice none 0 0, .slice none 0 0] 86)
  have HR0 := Lib.hid (RowS.lit w1 w.heap.size [⟨2, 1, 0, (v : Int), .nil, .nil, none, 0, none, 0⟩] #[.int .i64 2, .int .i64 1, .int .i64 0, .int .i64 (v : Int), .slice none 0 0, .slice none 0 0] 1 rfl rfl hz1 (by omega) (fun r hr => by
    rw [List.mem_singleton] at hr
    subst hr
    exact ⟨repV_nil0 _ _ _, repV_nil0 _ _ _⟩))
  have HS0 : Hid (SrcV _ R (P + 1 + 0 * coB D)) := (hs1.below hba).more (by omega)
  have HN0 := Lib.hid ((But.of_one ho1).trans (But.of_below (R := R) hba (Nat.le_refl _)))
  clear hs1 ho1 hba HK hv
  go_wp2_with fail
  go_loopw [9, 10] (fun o i wr => ∃ (k : Nat) (rs : List StR) (A : Option Addr) (c : Nat), i = .int .i64 (k : Int) ∧ o = .slice A rs.length c ∧ k ≤ n ∧ Hid (rs.length = k + 1) ∧ Hid (RowS wr w.heap.size (.slice A rs.length c) rs) ∧ Hid (szR rs ≤ 1 + k * (1 + szB D)) ∧ Hid (SrcV wr R (P + 1 + k * coB D)) ∧ Hid (But R w wr)) (fun _ i _ => n - (intOf i).toNat)
  case atStart => exact ⟨0, [⟨2, 1, 0, (v : Int), .nil, .nil, none, 0, none, 0⟩], _, _, rfl, rfl, Nat.zero_le _, rfl, HR0, by unfold Hid; simp [szR, Sts.size], HS0, HN0⟩
  case round =>
    obtain ⟨k, rs, A, c, rfl, rfl, hk, hl, hR, hsz, hS, hN⟩ := hrel
    clear HR0 HS0 HN0 hz1
    have hbz := hN.out.size
    have hrl : rs.length ≤ 10 := by rw [hl.out]; omega
    obtain ⟨q, hq⟩ : ∃ q, rs.length = q := ⟨_, rfl⟩
    have HQ := Lib.hid hq
    rw [hq] at hR hrl ⊢
    clear hq
    by_cases hlt : k < n
    · have hkc : k * coB D ≤ 8 * 100 := Nat.mul_le_mul (by omega) hco
      go_wp2_with fail
      refine (HO.out (P + 1 + k * coB D) wr (by omega) hS.out).mono ?_
      rintro E w2 ⟨r, rfl, hRt, hRe, hsr, hs2, hb2⟩
      have hs2z := hb2.size
      have HT := Lib.hid hRt
      have HEe := Lib.hid hRe
      have HSR := Lib.hid hsr
      have HS2 := Lib.hid hs2
      have HB2 := Lib.hid (hN.out.trans hb2)
      have HR2 := Lib.hid (hR.out.but hb2 hRw)
      clear hRt hRe hb2 hsr hs2
      obtain ⟨tl, htl⟩ : ∃ q, r.t.len = q := ⟨_, rfl⟩
      obtain ⟨el, hel⟩ : ∃ q, r.e.len = q := ⟨_, rfl⟩
      have HC : Hid (r.cells = [.int .i64 r.op, .int .i64 r.x, .int .i64 r.y, .int .i64 r.n, .slice r.At tl r.ct, .slice r.Ae el r.ce]) := by unfold Hid; rw [← htl, ← hel]; rfl
      rw [htl, hel]
      clear htl hel
      have HOWN : Hid (w2.ownsRow w.heap.size 86 6 (.slice A q c) q (rs.flatMap StR.cells)) := by
        have := HR2.out.own
        rwa [HQ.out] at this
      have hz2 : w.heap.size ≤ w2.heap.size := Nat.le_trans hbz hs2z
      go_wp2_with (at_builtin; refine wpList_append_lies _ rfl _ _ 24 rfl w.heap.size 86 i0 (.agg #[.int .i64 0, .int .i64 0, .int .i64 0, .int .i64 0, .slice none 0 0, .slice none 0 0]) 6 80 Tryz.underlying24 HI.out HZ0.out HZ1.out HZ2.out rfl (by decide) _ _ _ rfl (HOWN.out.alloc _) ⟨_, 0, none⟩ 1 1 [.int .i64 r.op, .int .i64 r.x, .int .i64 r.y, .int .i64 r.n, .slice r.At tl r.ct, .slice r.Ae el r.ce] rfl rfl ?la1 ?la2 (by decide) ?la3 ?la4 ?la5 _ rfl ?_)
      try (case la1 => exact news1 (by simp) rfl)
      try (case la2 => intro u hu; simp only [List.mem_cons, List.not_mem_nil, or_false] at hu; rcases hu with rfl | rfl | rfl | rfl | rfl | rfl <;> rfl)
      try (case la3 => unfold maxLen; omega)
      try (case la4 => omega)
      try (case la5 => first | omega | (simp; omega))
      intro g2 cap2 w' hown' hg hat hlt'
      have hbA := (Below.refl w2.heap.size w2).alloc (Nat.le_refl _) (.cells #[.int .i64 r.op, .int .i64 r.x, .int .i64 r.y, .int .i64 r.n, .slice r.At tl r.ct, .slice r.Ae el r.ce] 86)
      have hR' : RowS w' w.heap.size (.slice (some ⟨g2, 0, none⟩) (rs.length + 1) cap2) (rs ++ [r]) := by
        refine RowS.snoc (HR2.out.below hbA) ?_ hg (hat.imp id fun e => e.trans (by simp)) (Firm.of_new HT.out hR.out hbz hbA) (Firm.of_new HEe.out hR.out hbz hbA)
        rw [HQ.out, HC.out]
        exact hown'
      have HR' := Lib.hid hR'
      have HB' := Lib.hid ((HB2.out.alloc _).grown hg (fun k hk => (HOWN.out.lt k hk).1))
      have HS' : Hid (SrcV w' R (P + 1 + (k + 1) * coB D)) := ((HS2.out.alloc _).keepR fun j hj => hg.block j (by simp; omega) (fun e => by have := (HOWN.out.lt j e.symm).1; omega)).more (by rw [Nat.succ_mul]; omega)
      have HZ' : Hid (szR (rs ++ [r]) ≤ 1 + (k + 1) * (1 + szB D)) := by
        unfold Hid
        rw [szR_append, szR_one, Nat.succ_mul]
        have := hsz.out
        have := HSR.out
        omega
      clear hown' hg hat hbA hR' HOWN
      go_wp2_with fail
      go_roundw
      case rel => exact ⟨k + 1, rs ++ [r], _, cap2, by go_num, by rw [List.length_append, HQ.out]; rfl, by omega, by unfold Hid; rw [List.length_append, hl.out]; rfl, by unfold Hid; rw [List.length_append]; exact HR'.out, HZ', HS', HB'⟩
      case measure => simp [intOf]; omega
    · obtain rfl : k = n := by omega
      go_wp2_with fail
      go_ret
      exact ⟨rs, A, c, by rw [HQ.out]; rfl, by rw [HQ.out]; exact hR.out, hl.out, hsz.out, hS.out, hN.out⟩

set_option maxRecDepth 100000 in
set_option maxHeartbeats 4000000 in
theorem one_succ (R D L : Nat) (hL : L ≤ 48000) (dv : Int) (hDD : D = 0 ∨ D = 1) (hdv : 1 ≤ dv) (hdv2 : dv ≤ 10) (T : Option Addr) (tn tc : Nat)
    (HSM : ∀ (q P : Nat) (w : World), q ≤ 8 → P ≤ L + 1000 → SrcV w R P → Calls Tryz.prog 57 #[.pointer (some ⟨R, 0, none⟩), .slice T tn tc, .int .i64 (dv - 1), .int .i64 (q : Int)] w (SomeP R P D q w))
    (P : Nat) (w : World) (hP : P ≤ L) (hs : SrcV w R P) :
    Calls Tryz.prog 64 #[.pointer (some ⟨R, 0, none⟩), .slice T tn tc, .int .i64 dv] w (OneP R P (D + 1) w) := by
  have hRw := hs.lt
  have hco5 : 5 ≤ coB (D + 1) := by rcases hDD with rfl | rfl <;> decide
  have H0 : Hid (∀ (P : Nat) (w : World), P ≤ 50000 → SrcV w R P → Calls Tryz.prog 64 #[.pointer (some ⟨R, 0, none⟩), .slice T tn tc, .int .i64 0] w (OneP R P 0 w)) := fun P w h1 h2 => one_zero R P T tn tc w h2 h1
  replace HSM := Lib.hid HSM
  obtain ⟨w0, hw0⟩ : ∃ w0, w.alloc (.cells #[.int .i64 0, .int .i64 0, .int .i64 0, .int .i64 0, .slice none 0 0, .slice none 0 0] 86) = w0 := ⟨_, rfl⟩
  have hb0 := (Below.refl w.heap.size w).alloc (Nat.le_refl _) (.cells #[.int .i64 0, .int .i64 0, .int .i64 0, .int .i64 0, .slice none 0 0, .slice none 0 0] 86)
  have X0 := Lib.hid (heap_alloc_new w (.cells #[.int .i64 0, .int .i64 0, .int .i64 0, .int .i64 0, .slice none 0 0, .slice none 0 0] 86))
  have S0 := Lib.hid (hs.below hb0)
  have N0 := Lib.hid (But.of_below (R := R) hb0 (Nat.le_refl _))
  have hz0 : w.heap.size + 1 ≤ (w.alloc (.cells #[.int .i64 0, .int .i64 0, .int .i64 0, .int .i64 0, .slice none 0 0, .slice none 0 0] 86)).heap.size := Nat.le_of_eq (by simp)
  rw [hw0] at X0 S0 N0 hz0
  clear hb0 hs
  go_enter Tryz.func64, Tryz.ntmps64
  go_upto_region 1 with (fail)
  clear hw0
  have HK1 := Lib.hid (pick_any R P 2 w0 (by omega) (by omega) S0.out (by omega))
  go_wp2_with fail
  refine HK1.out.mono ?_
  rintro E u1 ⟨v1, hv1, rfl, ks1, ko1⟩
  have kz1 := Nat.le_of_eq ko1.size.symm
  have S1 := Lib.hid ks1
  have N1 := Lib.hid (N0.out.trans (But.of_one ko1))
  have X1 := Lib.hid ((ko1.block w.heap.size (by omega)).trans X0.out)
  clear ks1 ko1 HK1
  have hbx : IntKind.i64.wrap (1 + (v1 : Int)) = 1 + (v1 : Int) := IntWalk.i64_in _ (by omega)
  have kb2 := (Below.refl u1.heap.size u1).alloc (Nat.le_refl _) (.cells #[.int .i64 1, .int .i64 2, .int .i64 1, .int .i64 4, .int .i64 5] 3)
  have kq2 : u1.heap.size ≤ (u1.alloc (.cells #[.int .i64 1, .int .i64 2, .int .i64 1, .int .i64 4, .int .i64 5] 3)).heap.size := kb2.size
  have HK2 : Hid (Calls Tryz.prog 25 #[.pointer (some ⟨R, 0, none⟩), .slice (some ⟨u1.heap.size, 0, none⟩) 5 5] (u1.alloc (.cells #[.int .i64 1, .int .i64 2, .int .i64 1, .int .i64 4, .int .i64 5] 3)) _) := num_any R (P + 1) u1.heap.size [1, 2, 1, 4, 5] (u1.alloc (.cells #[.int .i64 1, .int .i64 2, .int .i64 1, .int .i64 4, .int .i64 5] 3)) (heap_alloc_new u1 _) (by omega) (by decide) (by decide) (S1.out.below kb2) (by omega)
  have NN2 := Lib.hid (N1.out.trans (But.of_below kb2 (Nat.le_refl _)))
  have XX2 := Lib.hid ((kb2.block w.heap.size (by omega)).trans X1.out)
  clear kb2
  go_wp2_with fail
  refine HK2.out.mono ?_
  rintro E u2 ⟨ow, how, rfl, ks2, ko2⟩
  have kz2 := Nat.le_of_eq ko2.size.symm
  have S2 := Lib.hid ks2
  have N2 := Lib.hid (NN2.out.trans (But.of_one ko2))
  have X2 := Lib.hid ((ko2.block w.heap.size (by omega)).trans XX2.out)
  have kr2 : u1.heap.size ≤ u2.heap.size := Nat.le_trans kq2 kz2
  clear ks2 ko2 HK2 how kz2 kq2
  have HK3 := Lib.hid (pick_any R (P + 1 + 1) 11 u2 (by omega) (by omega) S2.out (by omega))
  go_wp2_with fail
  refine HK3.out.mono ?_
  rintro E u3 ⟨v3, hv3, rfl, ks3, ko3⟩
  have kz3 := Nat.le_of_eq ko3.size.symm
  have S3 := Lib.hid ks3
  have N3 := Lib.hid (N2.out.trans (But.of_one ko3))
  have X3 := Lib.hid ((ko3.block w.heap.size (by omega)).trans X2.out)
  clear ks3 ko3 HK3
  obtain ⟨sw, hsw⟩ : ∃ sw : Int, (v3 : Int) = sw := ⟨_, rfl⟩
  have hcase : sw = 0 ∨ sw = 1 ∨ sw = 2 ∨ sw = 3 ∨ sw = 4 ∨ sw = 5 ∨ sw = 6 ∨ sw = 7 ∨ sw = 8 ∨ sw = 9 ∨ sw = 10 := by omega
  rw [hsw]
  clear hsw hv3
  rcases hcase with rfl | rfl | rfl | rfl | rfl | rfl | rfl | rfl | rfl | rfl | rfl
  · have HK4 := Lib.hid (pick_any R (P + 1 + 1 + 1) 10 u3 (by omega) (by omega) S3.out (by omega))
    go_wp2_with fail
    refine HK4.out.mono ?_
    rintro E u4 ⟨q, hq, rfl, ks4, ko4⟩
    have kz4 := Nat.le_of_eq ko4.size.symm
    have S4 := Lib.hid ks4
    have N4 := Lib.hid (N3.out.trans (But.of_one ko4))
    have X4 := Lib.hid ((ko4.block w.heap.size (by omega)).trans X3.out)
    clear ks4 ko4 HK4
    have hX := X4.out
    have z0 : u4.cell? ⟨w.heap.size, 0, none⟩ = some (.int .i64 0) := (cell_of_block hX 0).trans rfl
    have y0 := frozen_of_block hX 0
    have z1 : u4.cell? ⟨w.heap.size, 1, none⟩ = some (.int .i64 0) := (cell_of_block hX 1).trans rfl
    have y1 := frozen_of_block hX 1
    have z2 : u4.cell? ⟨w.heap.size, 2, none⟩ = some (.int .i64 0) := (cell_of_block hX 2).trans rfl
    have y2 := frozen_of_block hX 2
    have z3 : u4.cell? ⟨w.heap.size, 3, none⟩ = some (.int .i64 0) := (cell_of_block hX 3).trans rfl
    have y3 := frozen_of_block hX 3
    have z4 : u4.cell? ⟨w.heap.size, 4, none⟩ = some (.slice none 0 0) := (cell_of_block hX 4).trans rfl
    have y4 := frozen_of_block hX 4
    have z5 : u4.cell? ⟨w.heap.size, 5, none⟩ = some (.slice none 0 0) := (cell_of_block hX 5).trans rfl
    have y5 := frozen_of_block hX 5
    clear hX
    go_wp2_with fail
    refine bodyPost_ret (v := .agg #[.int .i64 1, .int .i64 0, .int .i64 0, .int .i64 (q : Int), .slice none 0 0, .slice none 0 0]) (by simp [results, Tryz.results64, go_sem, z0, z1, z2, z3, z4, z5]) rfl (oneP_simple R P (D + 1) _ _ _ _ w _ ?_ ?_)
    · repeat (refine SrcV.setB ?_ (by omega) _ _)
      exact S4.out.more (by omega)
    · repeat (refine But.setCell ?_ (Nat.le_refl _) _)
      exact N4.out
  · have HK4 := Lib.hid (pick_any R (P + 1 + 1 + 1) 10 u3 (by omega) (by omega) S3.out (by omega))
    go_wp2_with fail
    refine HK4.out.mono ?_
    rintro E u4 ⟨q, hq, rfl, ks4, ko4⟩
    have kz4 := Nat.le_of_eq ko4.size.symm
    have S4 := Lib.hid ks4
    have N4 := Lib.hid (N3.out.trans (But.of_one ko4))
    have X4 := Lib.hid ((ko4.block w.heap.size (by omega)).trans X3.out)
    clear ks4 ko4 HK4
    have hX := X4.out
    have z0 : u4.cell? ⟨w.heap.size, 0, none⟩ = some (.int .i64 0) := (cell_of_block hX 0).trans rfl
    have y0 := frozen_of_block hX 0
    have z1 : u4.cell? ⟨w.heap.size, 1, none⟩ = some (.int .i64 0) := (cell_of_block hX 1).trans rfl
    have y1 := frozen_of_block hX 1
    have z2 : u4.cell? ⟨w.heap.size, 2, none⟩ = some (.int .i64 0) := (cell_of_block hX 2).trans rfl
    have y2 := frozen_of_block hX 2
    have z3 : u4.cell? ⟨w.heap.size, 3, none⟩ = some (.int .i64 0) := (cell_of_block hX 3).trans rfl
    have y3 := frozen_of_block hX 3
    have z4 : u4.cell? ⟨w.heap.size, 4, none⟩ = some (.slice none 0 0) := (cell_of_block hX 4).trans rfl
    have y4 := frozen_of_block hX 4
    have z5 : u4.cell? ⟨w.heap.size, 5, none⟩ = some (.slice none 0 0) := (cell_of_block hX 5).trans rfl
    have y5 := frozen_of_block hX 5
    clear hX
    go_wp2_with fail
    refine bodyPost_ret (v := .agg #[.int .i64 2, .int .i64 (1 + (v1 : Int)), .int .i64 0, .int .i64 (q : Int), .slice none 0 0, .slice none 0 0]) (by simp [results, Tryz.results64, go_sem, z0, z1, z2, z3, z4, z5]) rfl (oneP_simple R P (D + 1) _ _ _ _ w _ ?_ ?_)
    · repeat (refine SrcV.setB ?_ (by omega) _ _)
      exact S4.out.more (by omega)
    · repeat (refine But.setCell ?_ (Nat.le_refl _) _)
      exact N4.out
  · have h3 : IntKind.i64.wrap (3 - (1 + (v1 : Int))) = 3 - (1 + (v1 : Int)) := IntWalk.i64_in _ (by omega)
    have hX := X3.out
    have z0 : u3.cell? ⟨w.heap.size, 0, none⟩ = some (.int .i64 0) := (cell_of_block hX 0).trans rfl
    have y0 := frozen_of_block hX 0
    have z1 : u3.cell? ⟨w.heap.size, 1, none⟩ = some (.int .i64 0) := (cell_of_block hX 1).trans rfl
    have y1 := frozen_of_block hX 1
    have z2 : u3.cell? ⟨w.heap.size, 2, none⟩ = some (.int .i64 0) := (cell_of_block hX 2).trans rfl
    have y2 := frozen_of_block hX 2
    have z3 : u3.cell? ⟨w.heap.size, 3, none⟩ = some (.int .i64 0) := (cell_of_block hX 3).trans rfl
    have y3 := frozen_of_block hX 3
    have z4 : u3.cell? ⟨w.heap.size, 4, none⟩ = some (.slice none 0 0) := (cell_of_block hX 4).trans rfl
    have y4 := frozen_of_block hX 4
    have z5 : u3.cell? ⟨w.heap.size, 5, none⟩ = some (.slice none 0 0) := (cell_of_block hX 5).trans rfl
    have y5 := frozen_of_block hX 5
    clear hX
    go_wp2_with fail
    refine bodyPost_ret (v := .agg #[.int .i64 3, .int .i64 (1 + (v1 : Int)), .int .i64 (3 - (1 + (v1 : Int))), .int .i64 0, .slice none 0 0, .slice none 0 0]) (by simp [results, Tryz.results64, go_sem, z0, z1, z2, z3, z4, z5]) rfl (oneP_simple R P (D + 1) _ _ _ _ w _ ?_ ?_)
    · repeat (refine SrcV.setB ?_ (by omega) _ _)
      exact S3.out.more (by omega)
    · repeat (refine But.setCell ?_ (Nat.le_refl _) _)
      exact N3.out
  · have hX := X3.out
    have z0 : u3.cell? ⟨w.heap.size, 0, none⟩ = some (.int .i64 0) := (cell_of_block hX 0).trans rfl
    have y0 := frozen_of_block hX 0
    have z1 : u3.cell? ⟨w.heap.size, 1, none⟩ = some (.int .i64 0) := (cell_of_block hX 1).trans rfl
    have y1 := frozen_of_block hX 1
    have z2 : u3.cell? ⟨w.heap.size, 2, none⟩ = some (.int .i64 0) := (cell_of_block hX 2).trans rfl
    have y2 := frozen_of_block hX 2
    have z3 : u3.cell? ⟨w.heap.size, 3, none⟩ = some (.int .i64 0) := (cell_of_block hX 3).trans rfl
    have y3 := frozen_of_block hX 3
    have z4 : u3.cell? ⟨w.heap.size, 4, none⟩ = some (.slice none 0 0) := (cell_of_block hX 4).trans rfl
    have y4 := frozen_of_block hX 4
    have z5 : u3.cell? ⟨w.heap.size, 5, none⟩ = some (.slice none 0 0) := (cell_of_block hX 5).trans rfl
    have y5 := frozen_of_block hX 5
    clear hX
    go_wp2_with fail
    refine bodyPost_ret (v := .agg #[.int .i64 4, .int .i64 3, .int .i64 ow, .int .i64 0, .slice none 0 0, .slice none 0 0]) (by simp [results, Tryz.results64, go_sem, z0, z1, z2, z3, z4, z5]) rfl (oneP_simple R P (D + 1) _ _ _ _ w _ ?_ ?_)
    · repeat (refine SrcV.setB ?_ (by omega) _ _)
      exact S3.out.more (by omega)
    · repeat (refine But.setCell ?_ (Nat.le_refl _) _)
      exact N3.out
  · have kb4 := (Below.refl u3.heap.size u3).alloc (Nat.le_refl _) (.cells #[.int .i64 1, .int .i64 2, .int .i64 1, .int .i64 5] 3)
    have kq4 : u3.heap.size ≤ (u3.alloc (.cells #[.int .i64 1, .int .i64 2, .int .i64 1, .int .i64 5] 3)).heap.size := kb4.size
    have HK4 : Hid (Calls Tryz.prog 25 #[.pointer (some ⟨R, 0, none⟩), .slice (some ⟨u3.heap.size, 0, none⟩) 4 4] (u3.alloc (.cells #[.int .i64 1, .int .i64 2, .int .i64 1, .int .i64 5] 3)) _) := num_any R (P + 1 + 1 + 1) u3.heap.size [1, 2, 1, 5] (u3.alloc (.cells #[.int .i64 1, .int .i64 2, .int .i64 1, .int .i64 5] 3)) (heap_alloc_new u3 _) (by omega) (by decide) (by decide) (S3.out.below kb4) (by omega)
    have NN4 := Lib.hid (N3.out.trans (But.of_below kb4 (Nat.le_refl _)))
    have XX4 := Lib.hid ((kb4.block w.heap.size (by omega)).trans X3.out)
    clear kb4
    go_wp2_with fail
    refine HK4.out.mono ?_
    rintro E u4 ⟨q, hq, rfl, ks4, ko4⟩
    have kz4 := Nat.le_of_eq ko4.size.symm
    have S4 := Lib.hid ks4
    have N4 := Lib.hid (NN4.out.trans (But.of_one ko4))
    have X4 := Lib.hid ((ko4.block w.heap.size (by omega)).trans XX4.out)
    have kr4 : u3.heap.size ≤ u4.heap.size := Nat.le_trans kq4 kz4
    clear ks4 ko4 HK4 hq kz4 kq4
    have hX := X4.out
    have z0 : u4.cell? ⟨w.heap.size, 0, none⟩ = some (.int .i64 0) := (cell_of_block hX 0).trans rfl
    have y0 := frozen_of_block hX 0
    have z1 : u4.cell? ⟨w.heap.size, 1, none⟩ = some (.int .i64 0) := (cell_of_block hX 1).trans rfl
    have y1 := frozen_of_block hX 1
    have z2 : u4.cell? ⟨w.heap.size, 2, none⟩ = some (.int .i64 0) := (cell_of_block hX 2).trans rfl
    have y2 := frozen_of_block hX 2
    have z3 : u4.cell? ⟨w.heap.size, 3, none⟩ = some (.int .i64 0) := (cell_of_block hX 3).trans rfl
    have y3 := frozen_of_block hX 3
    have z4 : u4.cell? ⟨w.heap.size, 4, none⟩ = some (.slice none 0 0) := (cell_of_block hX 4).trans rfl
    have y4 := frozen_of_block hX 4
    have z5 : u4.cell? ⟨w.heap.size, 5, none⟩ = some (.slice none 0 0) := (cell_of_block hX 5).trans rfl
    have y5 := frozen_of_block hX 5
    clear hX
    go_wp2_with fail
    refine bodyPost_ret (v := .agg #[.int .i64 5, .int .i64 4, .int .i64 q, .int .i64 0, .slice none 0 0, .slice none 0 0]) (by simp [results, Tryz.results64, go_sem, z0, z1, z2, z3, z4, z5]) rfl (oneP_simple R P (D + 1) _ _ _ _ w _ ?_ ?_)
    · repeat (refine SrcV.setB ?_ (by omega) _ _)
      exact S4.out.more (by omega)
    · repeat (refine But.setCell ?_ (Nat.le_refl _) _)
      exact N4.out
  · have kb4 := (Below.refl u3.heap.size u3).alloc (Nat.le_refl _) (.cells #[.int .i64 1, .int .i64 2, .int .i64 1, .int .i64 5] 3)
    have kq4 : u3.heap.size ≤ (u3.alloc (.cells #[.int .i64 1, .int .i64 2, .int .i64 1, .int .i64 5] 3)).heap.size := kb4.size
    have HK4 : Hid (Calls Tryz.prog 25 #[.pointer (some ⟨R, 0, none⟩), .slice (some ⟨u3.heap.size, 0, none⟩) 4 4] (u3.alloc (.cells #[.int .i64 1, .int .i64 2, .int .i64 1, .int .i64 5] 3)) _) := num_any R (P + 1 + 1 + 1) u3.heap.size [1, 2, 1, 5] (u3.alloc (.cells #[.int .i64 1, .int .i64 2, .int .i64 1, .int .i64 5] 3)) (heap_alloc_new u3 _) (by omega) (by decide) (by decide) (S3.out.below kb4) (by omega)
    have NN4 := Lib.hid (N3.out.trans (But.of_below kb4 (Nat.le_refl _)))
    have XX4 := Lib.hid ((kb4.block w.heap.size (by omega)).trans X3.out)
    clear kb4
    go_wp2_with fail
    refine HK4.out.mono ?_
    rintro E u4 ⟨q, hq, rfl, ks4, ko4⟩
    have kz4 := Nat.le_of_eq ko4.size.symm
    have S4 := Lib.hid ks4
    have N4 := Lib.hid (NN4.out.trans (But.of_one ko4))
    have X4 := Lib.hid ((ko4.block w.heap.size (by omega)).trans XX4.out)
    have kr4 : u3.heap.size ≤ u4.heap.size := Nat.le_trans kq4 kz4
    clear ks4 ko4 HK4 hq kz4 kq4
    have hX := X4.out
    have z0 : u4.cell? ⟨w.heap.size, 0, none⟩ = some (.int .i64 0) := (cell_of_block hX 0).trans rfl
    have y0 := frozen_of_block hX 0
    have z1 : u4.cell? ⟨w.heap.size, 1, none⟩ = some (.int .i64 0) := (cell_of_block hX 1).trans rfl
    have y1 := frozen_of_block hX 1
    have z2 : u4.cell? ⟨w.heap.size, 2, none⟩ = some (.int .i64 0) := (cell_of_block hX 2).trans rfl
    have y2 := frozen_of_block hX 2
    have z3 : u4.cell? ⟨w.heap.size, 3, none⟩ = some (.int .i64 0) := (cell_of_block hX 3).trans rfl
    have y3 := frozen_of_block hX 3
    have z4 : u4.cell? ⟨w.heap.size, 4, none⟩ = some (.slice none 0 0) := (cell_of_block hX 4).trans rfl
    have y4 := frozen_of_block hX 4
    have z5 : u4.cell? ⟨w.heap.size, 5, none⟩ = some (.slice none 0 0) := (cell_of_block hX 5).trans rfl
    have y5 := frozen_of_block hX 5
    clear hX
    go_wp2_with fail
    refine bodyPost_ret (v := .agg #[.int .i64 5, .int .i64 4, .int .i64 q, .int .i64 0, .slice none 0 0, .slice none 0 0]) (by simp [results, Tryz.results64, go_sem, z0, z1, z2, z3, z4, z5]) rfl (oneP_simple R P (D + 1) _ _ _ _ w _ ?_ ?_)
    · repeat (refine SrcV.setB ?_ (by omega) _ _)
      exact S4.out.more (by omega)
    · repeat (refine But.setCell ?_ (Nat.le_refl _) _)
      exact N4.out
  · have kb4 := (Below.refl u3.heap.size u3).alloc (Nat.le_refl _) (.cells #[.int .i64 3, .int .i64 4, .int .i64 1, .int .i64 2, .int .i64 5] 3)
    have kq4 : u3.heap.size ≤ (u3.alloc (.cells #[.int .i64 3, .int .i64 4, .int .i64 1, .int .i64 2, .int .i64 5] 3)).heap.size := kb4.size
    have HK4 : Hid (Calls Tryz.prog 25 #[.pointer (some ⟨R, 0, none⟩), .slice (some ⟨u3.heap.size, 0, none⟩) 5 5] (u3.alloc (.cells #[.int .i64 3, .int .i64 4, .int .i64 1, .int .i64 2, .int .i64 5] 3)) _) := num_any R (P + 1 + 1 + 1) u3.heap.size [3, 4, 1, 2, 5] (u3.alloc (.cells #[.int .i64 3, .int .i64 4, .int .i64 1, .int .i64 2, .int .i64 5] 3)) (heap_alloc_new u3 _) (by omega) (by decide) (by decide) (S3.out.below kb4) (by omega)
    have NN4 := Lib.hid (N3.out.trans (But.of_below kb4 (Nat.le_refl _)))
    have XX4 := Lib.hid ((kb4.block w.heap.size (by omega)).trans X3.out)
    clear kb4
    go_wp2_with fail
    refine HK4.out.mono ?_
    rintro E u4 ⟨q, hq, rfl, ks4, ko4⟩
    have kz4 := Nat.le_of_eq ko4.size.symm
    have S4 := Lib.hid ks4
    have N4 := Lib.hid (NN4.out.trans (But.of_one ko4))
    have X4 := Lib.hid ((ko4.block w.heap.size (by omega)).trans XX4.out)
    have kr4 : u3.heap.size ≤ u4.heap.size := Nat.le_trans kq4 kz4
    clear ks4 ko4 HK4 hq kz4 kq4
    have hX := X4.out
    have z0 : u4.cell? ⟨w.heap.size, 0, none⟩ = some (.int .i64 0) := (cell_of_block hX 0).trans rfl
    have y0 := frozen_of_block hX 0
    have z1 : u4.cell? ⟨w.heap.size, 1, none⟩ = some (.int .i64 0) := (cell_of_block hX 1).trans rfl
    have y1 := frozen_of_block hX 1
    have z2 : u4.cell? ⟨w.heap.size, 2, none⟩ = some (.int .i64 0) := (cell_of_block hX 2).trans rfl
    have y2 := frozen_of_block hX 2
    have z3 : u4.cell? ⟨w.heap.size, 3, none⟩ = some (.int .i64 0) := (cell_of_block hX 3).trans rfl
    have y3 := frozen_of_block hX 3
    have z4 : u4.cell? ⟨w.heap.size, 4, none⟩ = some (.slice none 0 0) := (cell_of_block hX 4).trans rfl
    have y4 := frozen_of_block hX 4
    have z5 : u4.cell? ⟨w.heap.size, 5, none⟩ = some (.slice none 0 0) := (cell_of_block hX 5).trans rfl
    have y5 := frozen_of_block hX 5
    clear hX
    go_wp2_with fail
    refine bodyPost_ret (v := .agg #[.int .i64 6, .int .i64 0, .int .i64 q, .int .i64 0, .slice none 0 0, .slice none 0 0]) (by simp [results, Tryz.results64, go_sem, z0, z1, z2, z3, z4, z5]) rfl (oneP_simple R P (D + 1) _ _ _ _ w _ ?_ ?_)
    · repeat (refine SrcV.setB ?_ (by omega) _ _)
      exact S4.out.more (by omega)
    · repeat (refine But.setCell ?_ (Nat.le_refl _) _)
      exact N4.out
  · have kb4 := (Below.refl u3.heap.size u3).alloc (Nat.le_refl _) (.cells #[.int .i64 4, .int .i64 1, .int .i64 2, .int .i64 5] 3)
    have kq4 : u3.heap.size ≤ (u3.alloc (.cells #[.int .i64 4, .int .i64 1, .int .i64 2, .int .i64 5] 3)).heap.size := kb4.size
    have HK4 : Hid (Calls Tryz.prog 25 #[.pointer (some ⟨R, 0, none⟩), .slice (some ⟨u3.heap.size, 0, none⟩) 4 4] (u3.alloc (.cells #[.int .i64 4, .int .i64 1, .int .i64 2, .int .i64 5] 3)) _) := num_any R (P + 1 + 1 + 1) u3.heap.size [4, 1, 2, 5] (u3.alloc (.cells #[.int .i64 4, .int .i64 1, .int .i64 2, .int .i64 5] 3)) (heap_alloc_new u3 _) (by omega) (by decide) (by decide) (S3.out.below kb4) (by omega)
    have NN4 := Lib.hid (N3.out.trans (But.of_below kb4 (Nat.le_refl _)))
    have XX4 := Lib.hid ((kb4.block w.heap.size (by omega)).trans X3.out)
    clear kb4
    go_wp2_with fail
    refine HK4.out.mono ?_
    rintro E u4 ⟨q, hq, rfl, ks4, ko4⟩
    have kz4 := Nat.le_of_eq ko4.size.symm
    have S4 := Lib.hid ks4
    have N4 := Lib.hid (NN4.out.trans (But.of_one ko4))
    have X4 := Lib.hid ((ko4.block w.heap.size (by omega)).trans XX4.out)
    have kr4 : u3.heap.size ≤ u4.heap.size := Nat.le_trans kq4 kz4
    clear ks4 ko4 HK4 hq kz4 kq4
    have hX := X4.out
    have z0 : u4.cell? ⟨w.heap.size, 0, none⟩ = some (.int .i64 0) := (cell_of_block hX 0).trans rfl
    have y0 := frozen_of_block hX 0
    have z1 : u4.cell? ⟨w.heap.size, 1, none⟩ = some (.int .i64 0) := (cell_of_block hX 1).trans rfl
    have y1 := frozen_of_block hX 1
    have z2 : u4.cell? ⟨w.heap.size, 2, none⟩ = some (.int .i64 0) := (cell_of_block hX 2).trans rfl
    have y2 := frozen_of_block hX 2
    have z3 : u4.cell? ⟨w.heap.size, 3, none⟩ = some (.int .i64 0) := (cell_of_block hX 3).trans rfl
    have y3 := frozen_of_block hX 3
    have z4 : u4.cell? ⟨w.heap.size, 4, none⟩ = some (.slice none 0 0) := (cell_of_block hX 4).trans rfl
    have y4 := frozen_of_block hX 4
    have z5 : u4.cell? ⟨w.heap.size, 5, none⟩ = some (.slice none 0 0) := (cell_of_block hX 5).trans rfl
    have y5 := frozen_of_block hX 5
    clear hX
    go_wp2_with fail
    refine bodyPost_ret (v := .agg #[.int .i64 7, .int .i64 q, .int .i64 0, .int .i64 0, .slice none 0 0, .slice none 0 0]) (by simp [results, Tryz.results64, go_sem, z0, z1, z2, z3, z4, z5]) rfl (oneP_simple R P (D + 1) _ _ _ _ w _ ?_ ?_)
    · repeat (refine SrcV.setB ?_ (by omega) _ _)
      exact S4.out.more (by omega)
    · repeat (refine But.setCell ?_ (Nat.le_refl _) _)
      exact N4.out
  · have hX := X3.out
    have z0 : u3.cell? ⟨w.heap.size, 0, none⟩ = some (.int .i64 0) := (cell_of_block hX 0).trans rfl
    have y0 := frozen_of_block hX 0
    have z1 : u3.cell? ⟨w.heap.size, 1, none⟩ = some (.int .i64 0) := (cell_of_block hX 1).trans rfl
    have y1 := frozen_of_block hX 1
    have z2 : u3.cell? ⟨w.heap.size, 2, none⟩ = some (.int .i64 0) := (cell_of_block hX 2).trans rfl
    have y2 := frozen_of_block hX 2
    have z3 : u3.cell? ⟨w.heap.size, 3, none⟩ = some (.int .i64 0) := (cell_of_block hX 3).trans rfl
    have y3 := frozen_of_block hX 3
    have z4 : u3.cell? ⟨w.heap.size, 4, none⟩ = some (.slice none 0 0) := (cell_of_block hX 4).trans rfl
    have y4 := frozen_of_block hX 4
    have z5 : u3.cell? ⟨w.heap.size, 5, none⟩ = some (.slice none 0 0) := (cell_of_block hX 5).trans rfl
    have y5 := frozen_of_block hX 5
    clear hX
    go_wp2_with fail
    refine bodyPost_ret (v := .agg #[.int .i64 8, .int .i64 (1 + (v1 : Int)), .int .i64 0, .int .i64 0, .slice none 0 0, .slice none 0 0]) (by simp [results, Tryz.results64, go_sem, z0, z1, z2, z3, z4, z5]) rfl (oneP_simple R P (D + 1) _ _ _ _ w _ ?_ ?_)
    · repeat (refine SrcV.setB ?_ (by omega) _ _)
      exact S3.out.more (by omega)
    · repeat (refine But.setCell ?_ (Nat.le_refl _) _)
      exact N3.out
  · have hd : decide (0 < dv) = true := decide_eq_true (by omega)
    have hd1 : IntKind.i64.wrap (dv - 1) = dv - 1 := IntWalk.i64_in _ (by omega)
    have HK4 := Lib.hid (pick_any R (P + 1 + 1 + 1) 3 u3 (by omega) (by omega) S3.out (by omega))
    go_wp2_with fail
    refine HK4.out.mono ?_
    rintro E u4 ⟨q, hq, rfl, ks4, ko4⟩
    have kz4 := Nat.le_of_eq ko4.size.symm
    have S4 := Lib.hid ks4
    have N4 := Lib.hid (N3.out.trans (But.of_one ko4))
    have X4 := Lib.hid ((ko4.block w.heap.size (by omega)).trans X3.out)
    clear ks4 ko4 HK4
    have hz4 : w.heap.size + 1 ≤ u4.heap.size := by omega
    go_wp2_with fail
    refine (HSM.out q (P + 1 + 1 + 1 + 1) u4 (by omega) (by omega) S4.out).mono ?_
    rintro E m1 ⟨rs, A, c, rfl, hR, hl, hsz, hs, hb⟩
    have mz := hb.size
    have MS := Lib.hid hs
    have MB := Lib.hid (N4.out.trans hb)
    have MX := Lib.hid ((hb.block w.heap.size (by omega) (by omega)).trans X4.out)
    have MR := Lib.hid hR.rep.2
    have ML := Lib.hid hsz
    obtain ⟨ln, hln⟩ : ∃ ln, rs.length = ln := ⟨_, rfl⟩
    have MN := Lib.hid hln
    rw [hln]
    clear hs hb hR hl hsz hln
    have hcD : coB D ≤ 30 := by {rcases hDD with rfl | rfl <;> simp [coB]}
    have hcD2 : coB (D + 1) = 30 ∨ coB (D + 1) = 100 := by {rcases hDD with rfl | rfl <;> simp [coB]}
    have hqc : q * coB D ≤ 2 * coB D := Nat.mul_le_mul (by omega) (Nat.le_refl _)
    go_wp2_with fail
    refine (H0.out (P + 1 + 1 + 1 + 1 + 1 + q * coB D) m1 (by omega) MS.out).mono ?_
    rintro E m2 ⟨r, rfl, hRt, hRe, hsz, hs, hb⟩
    have nz := hb.size
    have MS2 := Lib.hid hs
    have MB2 := Lib.hid (MB.out.trans hb)
    have MX2 := Lib.hid ((hb.block w.heap.size (by omega) (by omega)).trans MX.out)
    have MR2 := Lib.hid (MR.out.but hb (by omega))
    have RW := Lib.hid (RowS.lit m2 (w.heap.size + 1) [r] #[.int .i64 r.op, .int .i64 r.x, .int .i64 r.y, .int .i64 r.n, .slice r.At r.t.len r.ct, .slice r.Ae r.e.len r.ce] 1 rfl rfl (by omega) (by omega) (fun u hu => by
      rw [List.mem_singleton] at hu
      subst hu
      exact ⟨hRt.mono (by omega) (Nat.le_refl _), hRe.mono (by omega) (Nat.le_refl _)⟩))
    have ML2 := Lib.hid hsz
    obtain ⟨tl, htl⟩ : ∃ q, r.t.len = q := ⟨_, rfl⟩
    obtain ⟨el, hel⟩ : ∃ q, r.e.len = q := ⟨_, rfl⟩
    rw [htl, hel] at RW ⊢
    clear hs hb hRt hRe hsz htl hel
    have zX : ∀ o, (m2.alloc o).heap[w.heap.size]? = some (.cells #[.int .i64 0, .int .i64 0, .int .i64 0, .int .i64 0, .slice none 0 0, .slice none 0 0] 86 (0, 0)) := fun o => (((Below.refl _ _).alloc (Nat.le_refl _) o).block w.heap.size (by omega)).trans MX2.out
    have z0 : ∀ o, (m2.alloc o).cell? ⟨w.heap.size, 0, none⟩ = some (.int .i64 0) := fun o => (cell_of_block (zX o) 0).trans rfl
    have y0 : ∀ o, (m2.alloc o).frozen? ⟨w.heap.size, 0, none⟩ = false := fun o => frozen_of_block (zX o) 0
    have z1 : ∀ o, (m2.alloc o).cell? ⟨w.heap.size, 1, none⟩ = some (.int .i64 0) := fun o => (cell_of_block (zX o) 1).trans rfl
    have y1 : ∀ o, (m2.alloc o).frozen? ⟨w.heap.size, 1, none⟩ = false := fun o => frozen_of_block (zX o) 1
    have z2 : ∀ o, (m2.alloc o).cell? ⟨w.heap.size, 2, none⟩ = some (.int .i64 0) := fun o => (cell_of_block (zX o) 2).trans rfl
    have y2 : ∀ o, (m2.alloc o).frozen? ⟨w.heap.size, 2, none⟩ = false := fun o => frozen_of_block (zX o) 2
    have z3 : ∀ o, (m2.alloc o).cell? ⟨w.heap.size, 3, none⟩ = some (.int .i64 0) := fun o => (cell_of_block (zX o) 3).trans rfl
    have y3 : ∀ o, (m2.alloc o).frozen? ⟨w.heap.size, 3, none⟩ = false := fun o => frozen_of_block (zX o) 3
    have z4 : ∀ o, (m2.alloc o).cell? ⟨w.heap.size, 4, none⟩ = some (.slice none 0 0) := fun o => (cell_of_block (zX o) 4).trans rfl
    have y4 : ∀ o, (m2.alloc o).frozen? ⟨w.heap.size, 4, none⟩ = false := fun o => frozen_of_block (zX o) 4
    have z5 : ∀ o, (m2.alloc o).cell? ⟨w.heap.size, 5, none⟩ = some (.slice none 0 0) := fun o => (cell_of_block (zX o) 5).trans rfl
    have y5 : ∀ o, (m2.alloc o).frozen? ⟨w.heap.size, 5, none⟩ = false := fun o => frozen_of_block (zX o) 5
    clear zX
    have hz8 : w.heap.size + 1 ≤ m2.heap.size := by omega
    go_wp2_with fail
    refine bodyPost_ret (v := .agg #[.int .i64 9, .int .i64 0, .int .i64 0, .int .i64 0, .slice A ln c, .slice (some ⟨m2.heap.size, 0, none⟩) 1 1]) (by simp [results, Tryz.results64, go_sem, z0, z1, z2, z3, z4, z5]) rfl ⟨⟨9, 0, 0, 0, ofR rs, ofR [r], A, c, some ⟨m2.heap.size, 0, none⟩, 1⟩, by rw [← MN.out]; simp only [ofR_len]; rfl, ?_, ?_, ?_, ?_, ?_⟩
    · refine MR2.out.keep (by omega) (by simp [World.setCell]) fun p h1 h2 => ?_
      repeat rw [World.cell?_setCell_other _ _ _ _ (fun e => by subst e; simp at h1; omega)]
      exact ((Below.refl _ _).alloc (Nat.le_refl _) _).cell h2
    · refine RW.out.rep.2.keep (by omega) (by simp [World.setCell]) fun p h1 h2 => ?_
      repeat rw [World.cell?_setCell_other _ _ _ _ (fun e => by subst e; simp at h1; omega)]
    · show (ofR rs).size + (ofR [r]).size ≤ _
      rw [ofR_size, ofR_size, szR_one]
      have h1 := ML.out
      have h2 := ML2.out
      have h3 : q * (1 + szB D) ≤ 2 * (1 + szB D) := Nat.mul_le_mul (by omega) (Nat.le_refl _)
      have h4 : szB 0 = 0 := rfl
      rcases hDD with rfl | rfl
      · have h5 : szB 0 = 0 := rfl
        have h6 : szB (0 + 1) = 4 := rfl
        omega
      · have h5 : szB 1 = 4 := rfl
        have h6 : szB (1 + 1) = 12 := rfl
        omega
    · repeat (refine SrcV.setB ?_ (by omega) _ _)
      refine (MS2.out.alloc _).more ?_
      have h4 : coB 0 = 5 := rfl
      rcases hDD with rfl | rfl
      · have h5 : coB (0 + 1) = 30 := rfl
        omega
      · have h5 : coB (1 + 1) = 100 := rfl
        have h6 : coB 1 = 30 := rfl
        omega
    · repeat (refine But.setCell ?_ (Nat.le_refl _) _)
      exact MB2.out.alloc _
  · have hd : decide (0 < dv) = true := decide_eq_true (by omega)
    have hz4 : w.heap.size + 1 ≤ u3.heap.size := by omega
    go_wp2_with fail
    refine (H0.out (P + 1 + 1 + 1) u3 (by omega) S3.out).mono ?_
    rintro E m1 ⟨r1, rfl, hRt1, hRe1, hsz1, hs, hb⟩
    have mz := hb.size
    have MS := Lib.hid hs
    have MB := Lib.hid (N3.out.trans hb)
    have MX := Lib.hid ((hb.block w.heap.size (by omega) (by omega)).trans X3.out)
    have HT1 := Lib.hid hRt1
    have HE1 := Lib.hid hRe1
    have ML := Lib.hid hsz1
    obtain ⟨tl1, htl1⟩ : ∃ q, r1.t.len = q := ⟨_, rfl⟩
    obtain ⟨el1, hel1⟩ : ∃ q, r1.e.len = q := ⟨_, rfl⟩
    have HC1 := Lib.hid htl1
    have HC2 := Lib.hid hel1
    rw [htl1, hel1]
    clear hs hb hRt1 hRe1 hsz1 htl1 hel1
    have h50 : coB 0 = 5 := rfl
    go_wp2_with fail
    refine (H0.out (P + 1 + 1 + 1 + coB 0) m1 (by omega) MS.out).mono ?_
    rintro E m2 ⟨r, rfl, hRt, hRe, hsz, hs, hb⟩
    have nz := hb.size
    have MS2 := Lib.hid hs
    have MB2 := Lib.hid (MB.out.trans hb)
    have MX2 := Lib.hid ((hb.block w.heap.size (by omega) (by omega)).trans MX.out)
    have RW := Lib.hid (RowS.lit m2 (w.heap.size + 1) [r1, r] #[.int .i64 r1.op, .int .i64 r1.x, .int .i64 r1.y, .int .i64 r1.n, .slice r1.At r1.t.len r1.ct, .slice r1.Ae r1.e.len r1.ce, .int .i64 r.op, .int .i64 r.x, .int .i64 r.y, .int .i64 r.n, .slice r.At r.t.len r.ct, .slice r.Ae r.e.len r.ce] 2 rfl rfl (by omega) (by omega) (fun u hu => by
      simp only [List.mem_cons, List.not_mem_nil, or_false] at hu
      rcases hu with rfl | rfl
      · exact ⟨(HT1.out.but hb (by omega)).mono (by omega) (Nat.le_refl _), (HE1.out.but hb (by omega)).mono (by omega) (Nat.le_refl _)⟩
      · exact ⟨hRt.mono (by omega) (Nat.le_refl _), hRe.mono (by omega) (Nat.le_refl _)⟩))
    have ML2 := Lib.hid hsz
    obtain ⟨tl, htl⟩ : ∃ q, r.t.len = q := ⟨_, rfl⟩
    obtain ⟨el, hel⟩ : ∃ q, r.e.len = q := ⟨_, rfl⟩
    rw [htl, hel, HC1.out, HC2.out] at RW
    rw [htl, hel]
    clear hs hb hRt hRe hsz htl hel
    have zX : ∀ o, (m2.alloc o).heap[w.heap.size]? = some (.cells #[.int .i64 0, .int .i64 0, .int .i64 0, .int .i64 0, .slice none 0 0, .slice none 0 0] 86 (0, 0)) := fun o => (((Below.refl _ _).alloc (Nat.le_refl _) o).block w.heap.size (by omega)).trans MX2.out
    have z0 : ∀ o, (m2.alloc o).cell? ⟨w.heap.size, 0, none⟩ = some (.int .i64 0) := fun o => (cell_of_block (zX o) 0).trans rfl
    have y0 : ∀ o, (m2.alloc o).frozen? ⟨w.heap.size, 0, none⟩ = false := fun o => frozen_of_block (zX o) 0
    have z1 : ∀ o, (m2.alloc o).cell? ⟨w.heap.size, 1, none⟩ = some (.int .i64 0) := fun o => (cell_of_block (zX o) 1).trans rfl
    have y1 : ∀ o, (m2.alloc o).frozen? ⟨w.heap.size, 1, none⟩ = false := fun o => frozen_of_block (zX o) 1
    have z2 : ∀ o, (m2.alloc o).cell? ⟨w.heap.size, 2, none⟩ = some (.int .i64 0) := fun o => (cell_of_block (zX o) 2).trans rfl
    have y2 : ∀ o, (m2.alloc o).frozen? ⟨w.heap.size, 2, none⟩ = false := fun o => frozen_of_block (zX o) 2
    have z3 : ∀ o, (m2.alloc o).cell? ⟨w.heap.size, 3, none⟩ = some (.int .i64 0) := fun o => (cell_of_block (zX o) 3).trans rfl
    have y3 : ∀ o, (m2.alloc o).frozen? ⟨w.heap.size, 3, none⟩ = false := fun o => frozen_of_block (zX o) 3
    have z4 : ∀ o, (m2.alloc o).cell? ⟨w.heap.size, 4, none⟩ = some (.slice none 0 0) := fun o => (cell_of_block (zX o) 4).trans rfl
    have y4 : ∀ o, (m2.alloc o).frozen? ⟨w.heap.size, 4, none⟩ = false := fun o => frozen_of_block (zX o) 4
    have z5 : ∀ o, (m2.alloc o).cell? ⟨w.heap.size, 5, none⟩ = some (.slice none 0 0) := fun o => (cell_of_block (zX o) 5).trans rfl
    have y5 : ∀ o, (m2.alloc o).frozen? ⟨w.heap.size, 5, none⟩ = false := fun o => frozen_of_block (zX o) 5
    clear zX
    have hz8 : w.heap.size + 1 ≤ m2.heap.size := by omega
    go_wp2_with fail
    refine bodyPost_ret (v := .agg #[.int .i64 10, .int .i64 0, .int .i64 0, .int .i64 0, .slice (some ⟨m2.heap.size, 0, none⟩) 2 2, .slice none 0 0]) (by simp [results, Tryz.results64, go_sem, z0, z1, z2, z3, z4, z5]) rfl ⟨⟨10, 0, 0, 0, ofR [r1, r], .nil, some ⟨m2.heap.size, 0, none⟩, 2, none, 0⟩, rfl, ?_, repV_nil0 _ _ _, ?_, ?_, ?_⟩
    · refine RW.out.rep.2.keep (by omega) (by simp [World.setCell]) fun p h1 h2 => ?_
      repeat rw [World.cell?_setCell_other _ _ _ _ (fun e => by subst e; simp at h1; omega)]
    · show (ofR [r1, r]).size + 0 ≤ _
      rw [ofR_size]
      simp only [szR]
      have h1 := ML.out
      have h2 := ML2.out
      have h4 : szB 0 = 0 := rfl
      rcases hDD with rfl | rfl
      · have h6 : szB (0 + 1) = 4 := rfl
        omega
      · have h6 : szB (1 + 1) = 12 := rfl
        omega
    · repeat (refine SrcV.setB ?_ (by omega) _ _)
      refine (MS2.out.alloc _).more ?_
      rcases hDD with rfl | rfl
      · have h5 : coB (0 + 1) = 30 := rfl
        omega
      · have h5 : coB (1 + 1) = 100 := rfl
        omega
    · repeat (refine But.setCell ?_ (Nat.le_refl _) _)
      exact MB2.out.alloc _

/-- Statements under statements. -/
theorem some_two (R : Nat) (T : Option Addr) (tn tc n P : Nat) (w : World) (hn : n ≤ 8) (hP : P ≤ 40000) (hs : SrcV w R P) :
    Calls Tryz.prog 57 #[.pointer (some ⟨R, 0, none⟩), .slice T tn tc, .int .i64 2, .int .i64 (n : Int)] w (SomeP R P 2 n w) := by
  have s0 : ∀ (q P : Nat) (w : World), q ≤ 8 → P ≤ 48000 → SrcV w R P → Calls Tryz.prog 57 #[.pointer (some ⟨R, 0, none⟩), .slice T tn tc, .int .i64 0, .int .i64 (q : Int)] w (SomeP R P 0 q w) :=
    fun q P w h1 h2 h3 => some_of R 0 49000 (by omega) 0 T tn tc (fun P w h4 h5 => one_zero R P T tn tc w h5 h4) q P w h1 (by omega) h3
  have o1 : ∀ (P : Nat) (w : World), P ≤ 47000 → SrcV w R P → Calls Tryz.prog 64 #[.pointer (some ⟨R, 0, none⟩), .slice T tn tc, .int .i64 1] w (OneP R P 1 w) :=
    fun P w h1 h2 => one_succ R 0 47000 (by omega) 1 (.inl rfl) (by omega) (by omega) T tn tc (fun q P w h3 h4 h5 => s0 q P w h3 (by omega) h5) P w h1 h2
  have s1 : ∀ (q P : Nat) (w : World), q ≤ 8 → P ≤ 46000 → SrcV w R P → Calls Tryz.prog 57 #[.pointer (some ⟨R, 0, none⟩), .slice T tn tc, .int .i64 1, .int .i64 (q : Int)] w (SomeP R P 1 q w) :=
    fun q P w h1 h2 h3 => some_of R 1 46000 (by omega) 1 T tn tc (fun P w h4 h5 => o1 P w (by omega) h5) q P w h1 (by omega) h3
  have o2 : ∀ (P : Nat) (w : World), P ≤ 45000 → SrcV w R P → Calls Tryz.prog 64 #[.pointer (some ⟨R, 0, none⟩), .slice T tn tc, .int .i64 2] w (OneP R P 2 w) :=
    fun P w h1 h2 => one_succ R 1 45000 (by omega) 2 (.inr rfl) (by omega) (by omega) T tn tc (fun q P w h3 h4 h5 => s1 q P w h3 (by omega) h5) P w h1 h2
  exact some_of R 2 40000 (by omega) 2 T tn tc (fun P w h4 h5 => o2 P w (by omega) h5) n P w hn hP hs

end Go.Proofs.YtlddoookojjleaaGreatDoor

namespace Go.Proofs.YtlddoookojjleaaGreatDoor
open Go.RowKit Go.Deep
set_option linter.unusedVariables false

/-- A program that two slices read as, in blocks from lo on. -/
def ReadsP (w : World) (lo : Nat) (ts : List Int) (s : Sts) (At As : Option Addr) (ct cs : Nat) : Prop := IntsV w lo w.heap.size ts At ct ∧ RepV w lo w.heap.size s As cs

theorem IntsV.mono {w : World} {lo lo' hi hi' : Nat} {xs : List Int} {A : Option Addr} {c : Nat} (h : IntsV w lo hi xs A c) (hl : lo' ≤ lo) (hh : hi ≤ hi') : IntsV w lo' hi' xs A c := h.keep hl hh fun _ _ _ => rfl

theorem RowI.intsB {w : World} {B n c : Nat} {A : Option Addr} {xs : List Int} (h : RowI w B (.slice A n c) xs) : IntsV w B w.heap.size xs A c := by
  have h1 := h.intsV
  refine ⟨h1.1, h1.2.1, fun h0 => ?_⟩
  obtain ⟨b, rfl, _, hb, hc⟩ := h1.2.2 h0
  exact ⟨b, rfl, (h.lt b.block rfl).1, hb, hc⟩

def ProgP (w : World) (E : Ending) (w' : World) : Prop := ∃ (ts : List Int) (s : Sts) (At As : Option Addr) (ct cs : Nat) (b : Bool), E = .returned (.tuple #[.agg #[.slice At ts.length ct, .slice As s.len cs], .bool b]) ∧
  ReadsP w' w.heap.size ts s At As ct cs ∧ ts.length ≤ 600 ∧ s.size ≤ 600 ∧ Below w.heap.size w w'

theorem own_type {w : World} {B size n g : Nat} {e : TypeId} {v : Value} {xs : List Value} {cs : Array Value} {t : TypeId} {fr : Nat × Nat} (h : w.ownsRow B e size v n xs) (hX : w.heap[g]? = some (.cells cs t fr)) (ht : e ≠ t) : v.ownBlock ≠ some g := by
  intro e1
  rcases h.2 with ⟨rfl, _⟩ | ⟨g', cap, cur, rfl, _, hc, _⟩
  · simp [Value.ownBlock] at e1
  · simp [Value.ownBlock] at e1
    subst e1
    rw [hX] at hc
    injection hc with hc
    injection hc with _ hc _
    exact ht hc.symm

/-- What the loop over the types knows. -/
structure TypL (w wr : World) (k : Nat) (v : Value) (xs : List Int) : Prop where
  res : wr.heap[w.heap.size]? = some (.cells #[.slice none 0 0, .slice none 0 0] 26 (0, 0))
  prog : wr.heap[w.heap.size + 1]? = some (.cells #[v, .slice none 0 0] 26 (0, 0))
  row : RowI wr w.heap.size v xs
  len : xs.length = k
  bel : Below w.heap.size w wr

theorem TypL.ne {w wr : World} {k : Nat} {v : Value} {xs : List Int} (h : TypL w wr k v xs) : v.ownBlock ≠ some w.heap.size ∧ v.ownBlock ≠ some (w.heap.size + 1) := ⟨own_type h.row h.res (by decide), own_type h.row h.prog (by decide)⟩

/-- A type more. -/
theorem TypL.step {w wr w2 : World} {k : Nat} {v v2 : Value} {xs : List Int} {x : Int} (h : TypL w wr k v xs) (hr : RowI w2 w.heap.size v2 (xs ++ [x])) (hg : wr.grownBy w2 v.ownBlock) :
    TypL w (w2.setCell ⟨w.heap.size + 1, 0, none⟩ v2) (k + 1) v2 (xs ++ [x]) := by
  have h1 := h.ne
  have l1 := heap_lt h.res
  have l2 := heap_lt h.prog
  have r1 := (hg.block _ l1 (fun e => h1.1 e.symm)).trans h.res
  have r2 := (hg.block _ l2 (fun e => h1.2 e.symm)).trans h.prog
  have r3 := block_set r2 0 v2
  have hb2 : Below w.heap.size w w2 := h.bel.grown hg h.bel.size (fun g hg' => (h.row.lt g hg').1)
  refine ⟨(Below.heap_setCell w2 ⟨w.heap.size + 1, 0, none⟩ v2 _ (by simp)).trans r1, r3, ?_, by rw [List.length_append, h.len]; rfl, hb2.setCell (by simp) _⟩
  exact hr.keep fun g hg' => Below.heap_setCell w2 ⟨w.heap.size + 1, 0, none⟩ v2 g (fun e => own_type hr r2 (by decide) (by rw [hg', e]))

theorem TypL.below {w wr w2 : World} {k : Nat} {v : Value} {xs : List Int} (h : TypL w wr k v xs) (hb : Below wr.heap.size wr w2) : TypL w w2 k v xs :=
  ⟨(hb.block _ (heap_lt h.res)).trans h.res, (hb.block _ (heap_lt h.prog)).trans h.prog, h.row.below hb, h.len, h.bel.trans (hb.mono h.bel.size)⟩

theorem progP_empty {w w' : World} (hb : Below w.heap.size w w') : ProgP w (.returned (.tuple #[.agg #[.slice none 0 0, .slice none 0 0], .bool false])) w' :=
  ⟨[], .nil, none, none, 0, 0, false, rfl, ⟨⟨Nat.le_refl _, by simp [maxLen], fun h => absurd h (by simp)⟩, repV_nil0 _ _ _⟩, by simp, by simp [Sts.size], hb⟩

set_option maxRecDepth 100000 in
set_option maxHeartbeats 4000000 in
theorem parseProgram_any (s : ByteArray) (hs : s.size ≤ 600) (w : World) : Calls Tryz.prog 46 #[.string s] w (ProgP w) := by
  have HLA := Lib.hid (list_all s hs 4 (by omega))
  have hz : ((w.alloc (.cells #[.slice none 0 0, .slice none 0 0] 26)).alloc (.cells #[.slice none 0 0, .slice none 0 0] 26)).heap.size = w.heap.size + 2 := by simp
  have hz1 : w.heap.size + 2 ≤ ((w.alloc (.cells #[.slice none 0 0, .slice none 0 0] 26)).alloc (.cells #[.slice none 0 0, .slice none 0 0] 26)).heap.size := Nat.le_of_eq hz.symm
  have hb0 := ((Below.refl w.heap.size w).alloc (Nat.le_refl _) (.cells #[.slice none 0 0, .slice none 0 0] 26)).alloc (by simp) (.cells #[.slice none 0 0, .slice none 0 0] 26)
  have h0 : ((w.alloc (.cells #[.slice none 0 0, .slice none 0 0] 26)).alloc (.cells #[.slice none 0 0, .slice none 0 0] 26)).heap[w.heap.size]? = some (.cells #[.slice none 0 0, .slice none 0 0] 26 (0, 0)) := by
    show ((w.heap.push _).push _)[w.heap.size]? = _
    simp only [Array.getElem?_push, Array.size_push]
    rw [if_neg (by omega), if_pos trivial]
  have h1 : ((w.alloc (.cells #[.slice none 0 0, .slice none 0 0] 26)).alloc (.cells #[.slice none 0 0, .slice none 0 0] 26)).heap[w.heap.size + 1]? = some (.cells #[.slice none 0 0, .slice none 0 0] 26 (0, 0)) := by
    show ((w.heap.push _).push _)[w.heap.size + 1]? = _
    simp only [Array.getElem?_push, Array.size_push]
    rw [if_pos trivial]
  have HT0 : Hid (TypL w ((w.alloc (.cells #[.slice none 0 0, .slice none 0 0] 26)).alloc (.cells #[.slice none 0 0, .slice none 0 0] 26)) 0 (.slice none 0 0) []) := ⟨h0, h1, World.ownsRow_nil _ w.heap.size 3 1, rfl, hb0⟩
  obtain ⟨i0, hi, hi0, hi1, hi2⟩ := info_parts Tryz.infoInt
  have HI := Lib.hid hi
  have HZ0 := Lib.hid hi0
  have HZ1 := Lib.hid hi1
  have HZ2 := Lib.hid hi2
  clear hi hi0 hi1 hi2 h0 h1 hb0 hz
  go_enter Tryz.func46, Tryz.ntmps46
  go_wp2_with fail
  go_loopw [5] (fun at_ wr => ∃ (k : Nat) (v : Value) (xs : List Int), at_ = .int .i64 (k : Int) ∧ k ≤ s.size ∧ Hid (TypL w wr k v xs)) (fun at_ _ => s.size - (intOf at_).toNat)
  case atStart => exact ⟨0, _, [], rfl, Nat.zero_le _, HT0⟩
  case round =>
    clear HT0 hz1
    obtain ⟨k, v, xs, rfl, hk, hL⟩ := hrel
    obtain ⟨A, c, hv⟩ := hL.out.row.slice
    subst hv
    have hzr := hL.out.bel.size
    have hxl : xs.length ≤ 600 := by rw [hL.out.len]; omega
    obtain ⟨q, hq⟩ : ∃ q, xs.length = q := ⟨_, rfl⟩
    have HQ := Lib.hid hq
    rw [hq] at hL hxl
    clear hq
    have hP := hL.out.prog
    have hRs := hL.out.res
    have p0 : wr.cell? ⟨w.heap.size + 1, 0, none⟩ = some (.slice A q c) := (cell_of_block hP 0).trans rfl
    have HP := Lib.hid hP
    have HRs := Lib.hid hRs
    clear hP hRs
    by_cases hlt : k < s.size
    · have e0 : decide ((k : Int) < (s.size : Int)) = true := decide_eq_true (by omega)
      have e0' : decide (k < s.size) = true := decide_eq_true hlt
      by_cases hc : s[k].toNat = 58
      · have e1 : ((s[k].toNat : Int) != 58) = false := by rw [hc]; rfl
        have e2 : ((k : Int) == (s.size : Int)) = false := by simp; omega
        have e2' : (k == s.size) = false := by simp; omega
        clear hc
        go_wp2_with fail
        refine (HLA.out ((k : Int) + 1) wr (by omega) (by omega)).mono ?_
        rintro E w2 ⟨rs, A2, c2, nx, rfl, hR, hb2, hn⟩
        have hs2 := hb2.size
        have l1 := heap_lt HRs.out
        have l2 := heap_lt HP.out
        have hP2 := (hb2.block _ l2).trans HP.out
        have hR2 := (hb2.block _ l1).trans HRs.out
        have z0 : w2.cell? ⟨w.heap.size, 0, none⟩ = some (.slice none 0 0) := (cell_of_block hR2 0).trans rfl
        have z1 : w2.cell? ⟨w.heap.size, 1, none⟩ = some (.slice none 0 0) := (cell_of_block hR2 1).trans rfl
        have y0 := frozen_of_block hR2 0
        have y1 := frozen_of_block hR2 1
        have x0 : w2.cell? ⟨w.heap.size + 1, 0, none⟩ = some (.slice A q c) := (cell_of_block hP2 0).trans rfl
        have x1 : w2.cell? ⟨w.heap.size + 1, 1, none⟩ = some (.slice none 0 0) := (cell_of_block hP2 1).trans rfl
        have xf := frozen_of_block hP2 1
        have HB2 := Lib.hid (hL.out.bel.trans (hb2.mono hzr))
        have HROW := Lib.hid (hL.out.row.below hb2)
        have HRS := Lib.hid hR
        have HN := Lib.hid hn
        have HX2 := Lib.hid hR2
        have HP2 := Lib.hid hP2
        obtain ⟨m, hm⟩ : ∃ m, rs.length = m := ⟨_, rfl⟩
        have HM := Lib.hid hm
        rw [hm]
        clear hP2 hR2 hb2 hR hn hm
        by_cases hnx : nx = (s.size : Int)
        · have f1 : (nx != (s.size : Int)) = false := by rw [hnx]; simp
          have hzs : Hid (szR rs ≤ 600) := by
            unfold Hid
            rcases HN.out with ⟨h, _⟩ | ⟨h1, h2, h3⟩
            · omega
            · omega
          clear hnx
          go_upto_region 22 with (fail)
          obtain ⟨w3, hw3⟩ : ∃ w3, w2.setCell ⟨w.heap.size + 1, 1, none⟩ (.slice A2 m c2) = w3 := ⟨_, rfl⟩
          have hO := (One.refl (w.heap.size + 1) w2).set 1 (.slice A2 m c2)
          have hB3 := block_set HP2.out 1 (.slice A2 m c2)
          rw [hw3] at hO hB3 ⊢
          clear hw3
          have x0 : w3.cell? ⟨w.heap.size + 1, 0, none⟩ = some (.slice A q c) := (cell_of_block hB3 0).trans rfl
          have x1 : w3.cell? ⟨w.heap.size + 1, 1, none⟩ = some (.slice A2 m c2) := (cell_of_block hB3 1).trans rfl
          have hne := own_type HROW.out HP2.out (by decide)
          have hI3 : IntsV w3 0 w3.heap.size xs A c := (HROW.out.keep fun g hg => hO.block g (fun e => hne (by rw [hg, e]))).intsV
          have hR3 : RepV w3 0 w3.heap.size (ofR rs) A2 c2 := HRS.out.rep.2.keep (Nat.zero_le _) (Nat.le_of_eq hO.size.symm) fun p h1 h2 => World.cell?_of_block (hO.block p.block (by omega))
          have hX3 := (hO.block w.heap.size (by omega)).trans HX2.out
          have HV := specProgramValid_any xs (ofR rs) A A2 c c2 w3 (by rw [ofR_size]; have := hzs.out; omega) hI3 hR3
          rw [HQ.out, ofR_len, HM.out] at HV
          have HI3 := Lib.hid hI3
          have HROW3 := Lib.hid (HROW.out.keep fun g hg => hO.block g (fun e => hne (by rw [hg, e])))
          have HRS3 : Hid (RepV w3 (w.heap.size + 1) w3.heap.size (ofR rs) A2 c2) := HRS.out.rep.2.keep (by omega) (Nat.le_of_eq hO.size.symm) fun p h1 h2 => World.cell?_of_block (hO.block p.block (by omega))
          have HR3 := Lib.hid hR3
          have HX3 := Lib.hid hX3
          have hB3z : w2.heap.size ≤ w3.heap.size := Nat.le_of_eq hO.size.symm
          have HB3 := Lib.hid (HB2.out.trans (hO.below (Nat.le_succ _)))
          have HP3 := Lib.hid hB3
          replace HV := Lib.hid HV
          clear hne hI3 hR3 hX3 hO hB3 z0 z1 y0 y1 xf
          obtain ⟨vb, hvb⟩ : ∃ b, validB xs (ofR rs) = b := ⟨_, rfl⟩
          have HVB := Lib.hid hvb
          rw [hvb] at HV
          clear hvb
          go_wp2_with fail
          refine HV.out.mono ?_
          rintro E w4 ⟨rfl, hb4⟩
          have hs4 := hb4.size
          have hX4 := (hb4.block w.heap.size (by omega)).trans HX3.out
          have hP4 := (hb4.block (w.heap.size + 1) (by omega)).trans HP3.out
          have z0 : w4.cell? ⟨w.heap.size, 0, none⟩ = some (.slice none 0 0) := (cell_of_block hX4 0).trans rfl
          have z1 : w4.cell? ⟨w.heap.size, 1, none⟩ = some (.slice none 0 0) := (cell_of_block hX4 1).trans rfl
          have y0 := frozen_of_block hX4 0
          have y1 := frozen_of_block hX4 1
          have x0 : w4.cell? ⟨w.heap.size + 1, 0, none⟩ = some (.slice A q c) := (cell_of_block hP4 0).trans rfl
          have x1 : w4.cell? ⟨w.heap.size + 1, 1, none⟩ = some (.slice A2 m c2) := (cell_of_block hP4 1).trans rfl
          have HB4 := Lib.hid (HB3.out.trans (hb4.mono (by omega)))
          have HI4 := Lib.hid (HI3.out.below hb4 hb4.size)
          have HR4 := Lib.hid (HR3.out.below hb4 hb4.size)
          have HX4 := Lib.hid hX4
          have HP4 := Lib.hid hP4
          replace hb4 := Lib.hid hb4
          clear hX4 hP4
          cases vb
          · go_wp2_with fail
            refine bodyPost_ret (v := .tuple #[.agg #[.slice none 0 0, .slice none 0 0], .bool false]) (by simp [results, Tryz.results46, go_sem, z0, z1]) rfl (progP_empty ?_)
            repeat (refine Below.setCell ?_ (by simp) _)
            exact HB4.out
          · obtain ⟨hty, hok, h30⟩ := valid_ok HVB.out
            have HT := l1Program_any xs (ofR rs) A A2 c c2 w4 hty hok h30 HI4.out HR4.out
            rw [HQ.out, ofR_len, HM.out] at HT
            replace HT := Lib.hid HT
            have HROW4 := Lib.hid (HROW3.out.below hb4.out)
            have HRS4 := Lib.hid (HRS3.out.below' hb4.out hs4)
            clear hty hok h30 z0 z1 y0 y1
            go_wp2_with fail
            refine HT.out.mono ?_
            rintro E w5 ⟨rfl, hb5⟩
            obtain ⟨S, hS⟩ : ∃ S : ByteArray, ByteArray.mk (progT xs (ofR rs)).toArray = S := ⟨_, rfl⟩
            rw [hS]
            clear hS
            have hs5 := hb5.size
            have hX5 := (hb5.block w.heap.size (by omega)).trans HX4.out
            have hP5 := (hb5.block (w.heap.size + 1) (by omega)).trans HP4.out
            have z0 : w5.cell? ⟨w.heap.size, 0, none⟩ = some (.slice none 0 0) := (cell_of_block hX5 0).trans rfl
            have z1 : w5.cell? ⟨w.heap.size, 1, none⟩ = some (.slice none 0 0) := (cell_of_block hX5 1).trans rfl
            have y0 := frozen_of_block hX5 0
            have y1 := frozen_of_block hX5 1
            have x0 : w5.cell? ⟨w.heap.size + 1, 0, none⟩ = some (.slice A q c) := (cell_of_block hP5 0).trans rfl
            have x1 : w5.cell? ⟨w.heap.size + 1, 1, none⟩ = some (.slice A2 m c2) := (cell_of_block hP5 1).trans rfl
            have HB5 := Lib.hid (HB4.out.trans (hb5.mono (by omega)))
            have HROW5 := Lib.hid (HROW4.out.below hb5)
            have HRS5 := Lib.hid (HRS4.out.below' hb5 hs5)
            have HX5 := Lib.hid hX5
            clear hX5 hP5 hb5
            by_cases hSs : (S.toList == s.toList) = true
            · have g1 : (!(S.toList == s.toList)) = false := by rw [hSs]; rfl
              go_wp2_with fail
              refine bodyPost_ret (v := .tuple #[.agg #[.slice A q c, .slice A2 m c2], .bool true]) (by simp [results, Tryz.results46, go_sem, z0, z1]) rfl ⟨xs, ofR rs, A, A2, c, c2, true, by rw [ofR_len, HQ.out, HM.out], ⟨?_, ?_⟩, by rw [HQ.out]; exact hxl, by rw [ofR_size]; exact hzs.out, ?_⟩
              · have hn5 := own_type HROW5.out HX5.out (by decide)
                exact (HROW5.out.keep fun g hg => (Below.heap_setCell _ _ _ _ (fun e => hn5 (by rw [hg, e]))).trans (Below.heap_setCell _ _ _ _ (fun e => hn5 (by rw [hg, e])))).intsB.mono (Nat.le_refl _) (Nat.le_refl _)
              · refine HRS5.out.keep (Nat.le_succ _) (by simp [World.setCell]) fun p h1 h2 => ?_
                repeat rw [World.cell?_setCell_other _ _ _ _ (fun e => by subst e; simp at h1; omega)]
              · repeat (refine Below.setCell ?_ (by simp) _)
                exact HB5.out
            · have g0 : (S.toList == s.toList) = false := by simpa using hSs
              have g1 : (!(S.toList == s.toList)) = true := by rw [g0]; rfl
              clear hSs
              go_wp2_with fail
              refine bodyPost_ret (v := .tuple #[.agg #[.slice none 0 0, .slice none 0 0], .bool false]) (by simp [results, Tryz.results46, go_sem, z0, z1]) rfl (progP_empty ?_)
              repeat (refine Below.setCell ?_ (by simp) _)
              exact HB5.out
        · have f1 : (nx != (s.size : Int)) = true := by simpa using hnx
          clear hnx
          go_wp2_with fail
          refine bodyPost_ret (v := .tuple #[.agg #[.slice none 0 0, .slice none 0 0], .bool false]) (by simp [results, Tryz.results46, go_sem, z0, z1]) rfl (progP_empty ?_)
          repeat (refine Below.setCell ?_ (by simp) _)
          exact HB2.out
      · have e1 : ((s[k].toNat : Int) != 58) = true := by simp; omega
        have HOWN : Hid (wr.ownsRow w.heap.size 3 1 (.slice A q c) q (xs.map (Value.int .i64))) := by
          have := hL.out.row.own
          rwa [HQ.out] at this
        by_cases h105 : s[k].toNat = 105
        · have g105 : ((s[k].toNat : Int) == 105) = true := by rw [h105]; rfl
          clear h105
          clear hc
          go_wp2_with (at_builtin; refine wpList_append_lies _ rfl _ _ 23 rfl w.heap.size 3 i0 (.int .i64 0) 1 8 Tryz.underlying23 HI.out HZ0.out HZ1.out HZ2.out rfl (by decide) _ _ _ rfl (HOWN.out.alloc _) ⟨_, 0, none⟩ 1 1 [.int .i64 1] rfl rfl ?la1 ?la2 (by decide) ?la3 ?la4 ?la5 _ rfl ?_)
          try (case la1 => exact news1 (by simp) rfl)
          try (case la2 => intro u hu; simp only [List.mem_cons, List.not_mem_nil, or_false] at hu; subst hu; rfl)
          try (case la3 => unfold maxLen; omega)
          try (case la4 => omega)
          try (case la5 => first | omega | (simp; omega))
          intro g2 cap2 w2 hown' hg hat hlt'
          have hL2 := hL.out.below ((Below.refl wr.heap.size wr).alloc (Nat.le_refl _) (.cells #[.int .i64 1] 3))
          have hr2 : RowI w2 w.heap.size (.slice (some ⟨g2, 0, none⟩) (q + 1) cap2) (xs ++ [1]) := by
            refine RowI.snoc ?_
            rw [HQ.out]
            exact hown'
          have HL3 := Lib.hid (hL2.step hr2 hg)
          have hP2 := (hg.block _ (heap_lt hL2.prog) (fun e => hL2.ne.2 e.symm)).trans hL2.prog
          have x0 : w2.cell? ⟨w.heap.size + 1, 0, none⟩ = some (.slice A q c) := (cell_of_block hP2 0).trans rfl
          have xf := frozen_of_block hP2 0
          clear hown' hg hat hL2 hr2 hP2 HOWN
          go_wp2_with fail
          go_roundw
          case rel => exact ⟨k + 1, _, xs ++ [1], by go_num, by omega, HL3⟩
          case measure => simp [intOf]; omega
        have g105 : ((s[k].toNat : Int) == 105) = false := by simp; omega
        by_cases h98 : s[k].toNat = 98
        · have g98 : ((s[k].toNat : Int) == 98) = true := by rw [h98]; rfl
          clear h98
          clear hc
          go_wp2_with (at_builtin; refine wpList_append_lies _ rfl _ _ 23 rfl w.heap.size 3 i0 (.int .i64 0) 1 8 Tryz.underlying23 HI.out HZ0.out HZ1.out HZ2.out rfl (by decide) _ _ _ rfl (HOWN.out.alloc _) ⟨_, 0, none⟩ 1 1 [.int .i64 2] rfl rfl ?la1 ?la2 (by decide) ?la3 ?la4 ?la5 _ rfl ?_)
          try (case la1 => exact news1 (by simp) rfl)
          try (case la2 => intro u hu; simp only [List.mem_cons, List.not_mem_nil, or_false] at hu; subst hu; rfl)
          try (case la3 => unfold maxLen; omega)
          try (case la4 => omega)
          try (case la5 => first | omega | (simp; omega))
          intro g2 cap2 w2 hown' hg hat hlt'
          have hL2 := hL.out.below ((Below.refl wr.heap.size wr).alloc (Nat.le_refl _) (.cells #[.int .i64 2] 3))
          have hr2 : RowI w2 w.heap.size (.slice (some ⟨g2, 0, none⟩) (q + 1) cap2) (xs ++ [2]) := by
            refine RowI.snoc ?_
            rw [HQ.out]
            exact hown'
          have HL3 := Lib.hid (hL2.step hr2 hg)
          have hP2 := (hg.block _ (heap_lt hL2.prog) (fun e => hL2.ne.2 e.symm)).trans hL2.prog
          have x0 : w2.cell? ⟨w.heap.size + 1, 0, none⟩ = some (.slice A q c) := (cell_of_block hP2 0).trans rfl
          have xf := frozen_of_block hP2 0
          clear hown' hg hat hL2 hr2 hP2 HOWN
          go_wp2_with fail
          go_roundw
          case rel => exact ⟨k + 1, _, xs ++ [2], by go_num, by omega, HL3⟩
          case measure => simp [intOf]; omega
        have g98 : ((s[k].toNat : Int) == 98) = false := by simp; omega
        by_cases h114 : s[k].toNat = 114
        · have g114 : ((s[k].toNat : Int) == 114) = true := by rw [h114]; rfl
          clear h114
          clear hc
          go_wp2_with (at_builtin; refine wpList_append_lies _ rfl _ _ 23 rfl w.heap.size 3 i0 (.int .i64 0) 1 8 Tryz.underlying23 HI.out HZ0.out HZ1.out HZ2.out rfl (by decide) _ _ _ rfl (HOWN.out.alloc _) ⟨_, 0, none⟩ 1 1 [.int .i64 3] rfl rfl ?la1 ?la2 (by decide) ?la3 ?la4 ?la5 _ rfl ?_)
          try (case la1 => exact news1 (by simp) rfl)
          try (case la2 => intro u hu; simp only [List.mem_cons, List.not_mem_nil, or_false] at hu; subst hu; rfl)
          try (case la3 => unfold maxLen; omega)
          try (case la4 => omega)
          try (case la5 => first | omega | (simp; omega))
          intro g2 cap2 w2 hown' hg hat hlt'
          have hL2 := hL.out.below ((Below.refl wr.heap.size wr).alloc (Nat.le_refl _) (.cells #[.int .i64 3] 3))
          have hr2 : RowI w2 w.heap.size (.slice (some ⟨g2, 0, none⟩) (q + 1) cap2) (xs ++ [3]) := by
            refine RowI.snoc ?_
            rw [HQ.out]
            exact hown'
          have HL3 := Lib.hid (hL2.step hr2 hg)
          have hP2 := (hg.block _ (heap_lt hL2.prog) (fun e => hL2.ne.2 e.symm)).trans hL2.prog
          have x0 : w2.cell? ⟨w.heap.size + 1, 0, none⟩ = some (.slice A q c) := (cell_of_block hP2 0).trans rfl
          have xf := frozen_of_block hP2 0
          clear hown' hg hat hL2 hr2 hP2 HOWN
          go_wp2_with fail
          go_roundw
          case rel => exact ⟨k + 1, _, xs ++ [3], by go_num, by omega, HL3⟩
          case measure => simp [intOf]; omega
        have g114 : ((s[k].toNat : Int) == 114) = false := by simp; omega
        by_cases h109 : s[k].toNat = 109
        · have g109 : ((s[k].toNat : Int) == 109) = true := by rw [h109]; rfl
          clear h109
          clear hc
          go_wp2_with (at_builtin; refine wpList_append_lies _ rfl _ _ 23 rfl w.heap.size 3 i0 (.int .i64 0) 1 8 Tryz.underlying23 HI.out HZ0.out HZ1.out HZ2.out rfl (by decide) _ _ _ rfl (HOWN.out.alloc _) ⟨_, 0, none⟩ 1 1 [.int .i64 4] rfl rfl ?la1 ?la2 (by decide) ?la3 ?la4 ?la5 _ rfl ?_)
          try (case la1 => exact news1 (by simp) rfl)
          try (case la2 => intro u hu; simp only [List.mem_cons, List.not_mem_nil, or_false] at hu; subst hu; rfl)
          try (case la3 => unfold maxLen; omega)
          try (case la4 => omega)
          try (case la5 => first | omega | (simp; omega))
          intro g2 cap2 w2 hown' hg hat hlt'
          have hL2 := hL.out.below ((Below.refl wr.heap.size wr).alloc (Nat.le_refl _) (.cells #[.int .i64 4] 3))
          have hr2 : RowI w2 w.heap.size (.slice (some ⟨g2, 0, none⟩) (q + 1) cap2) (xs ++ [4]) := by
            refine RowI.snoc ?_
            rw [HQ.out]
            exact hown'
          have HL3 := Lib.hid (hL2.step hr2 hg)
          have hP2 := (hg.block _ (heap_lt hL2.prog) (fun e => hL2.ne.2 e.symm)).trans hL2.prog
          have x0 : w2.cell? ⟨w.heap.size + 1, 0, none⟩ = some (.slice A q c) := (cell_of_block hP2 0).trans rfl
          have xf := frozen_of_block hP2 0
          clear hown' hg hat hL2 hr2 hP2 HOWN
          go_wp2_with fail
          go_roundw
          case rel => exact ⟨k + 1, _, xs ++ [4], by go_num, by omega, HL3⟩
          case measure => simp [intOf]; omega
        have g109 : ((s[k].toNat : Int) == 109) = false := by simp; omega
        clear hc
        go_wp2_with (at_builtin; refine wpList_append_lies _ rfl _ _ 23 rfl w.heap.size 3 i0 (.int .i64 0) 1 8 Tryz.underlying23 HI.out HZ0.out HZ1.out HZ2.out rfl (by decide) _ _ _ rfl (HOWN.out.alloc _) ⟨_, 0, none⟩ 1 1 [.int .i64 0] rfl rfl ?la1 ?la2 (by decide) ?la3 ?la4 ?la5 _ rfl ?_)
        try (case la1 => exact news1 (by simp) rfl)
        try (case la2 => intro u hu; simp only [List.mem_cons, List.not_mem_nil, or_false] at hu; subst hu; rfl)
        try (case la3 => unfold maxLen; omega)
        try (case la4 => omega)
        try (case la5 => first | omega | (simp; omega))
        intro g2 cap2 w2 hown' hg hat hlt'
        have hL2 := hL.out.below ((Below.refl wr.heap.size wr).alloc (Nat.le_refl _) (.cells #[.int .i64 0] 3))
        have hr2 : RowI w2 w.heap.size (.slice (some ⟨g2, 0, none⟩) (q + 1) cap2) (xs ++ [0]) := by
          refine RowI.snoc ?_
          rw [HQ.out]
          exact hown'
        have HL3 := Lib.hid (hL2.step hr2 hg)
        have hP2 := (hg.block _ (heap_lt hL2.prog) (fun e => hL2.ne.2 e.symm)).trans hL2.prog
        have x0 : w2.cell? ⟨w.heap.size + 1, 0, none⟩ = some (.slice A q c) := (cell_of_block hP2 0).trans rfl
        have xf := frozen_of_block hP2 0
        clear hown' hg hat hL2 hr2 hP2 HOWN
        go_wp2_with fail
        go_roundw
        case rel => exact ⟨k + 1, _, xs ++ [0], by go_num, by omega, HL3⟩
        case measure => simp [intOf]; omega
    · have e0 : decide ((k : Int) < (s.size : Int)) = false := decide_eq_false (by omega)
      have e2 : ((k : Int) == (s.size : Int)) = true := by simp; omega
      have hR2 := HRs.out
      have z0 : wr.cell? ⟨w.heap.size, 0, none⟩ = some (.slice none 0 0) := (cell_of_block hR2 0).trans rfl
      have z1 : wr.cell? ⟨w.heap.size, 1, none⟩ = some (.slice none 0 0) := (cell_of_block hR2 1).trans rfl
      have y0 := frozen_of_block hR2 0
      have y1 := frozen_of_block hR2 1
      clear hR2
      go_wp2_with fail
      refine bodyPost_ret (v := .tuple #[.agg #[.slice none 0 0, .slice none 0 0], .bool false]) (by simp [results, Tryz.results46, go_sem, z0, z1]) rfl (progP_empty ?_)
      repeat (refine Below.setCell ?_ (by simp) _)
      exact hL.out.bel

end Go.Proofs.YtlddoookojjleaaGreatDoor

namespace Go.Proofs.YtlddoookojjleaaGreatDoor
open Go.RowKit Go.Deep
set_option linter.unusedVariables false

/-- What a cell holds, whatever it is. -/
def heldC (w : World) (p : Addr) : Value := (w.cell? p).getD (.bool false)

/-- What holds while a value is read at one place and stored at another. -/
abbrev LdK (a : Addr) (u : Value) (b : Addr) (w : World) : Prop := w.cell? a = some u ∧ w.cell? b = some (heldC w b) ∧ w.frozen? b = false

theorem ldK_mk {a b : Addr} {u z : Value} {w : World} (h1 : w.cell? a = some u) (h2 : w.cell? b = some z) (h3 : w.frozen? b = false) : LdK a u b w := ⟨h1, by unfold heldC; rw [h2]; rfl, h3⟩

theorem ldK_keep {a b : Addr} {u : Value} {w w' : World} (h : LdK a u b w) (ha : w'.heap[a.block]? = w.heap[a.block]?) (hb : w'.heap[b.block]? = w.heap[b.block]?) : LdK a u b w' := by
  have e1 := World.cell?_of_block (a := a) ha
  have e2 := World.cell?_of_block (a := b) hb
  have e3 := World.frozen?_of_block (a := b) hb
  exact ⟨e1.trans h.1, by unfold heldC; rw [e2, h.2.1]; rfl, e3.trans h.2.2⟩

theorem ldK_below {a b : Addr} {u : Value} {w w' : World} (h : LdK a u b w) (hb : Below w.heap.size w w') : LdK a u b w' :=
  ldK_keep h (hb.block _ (World.block_lt_of_cell? w _ h.1)) (hb.block _ (World.block_lt_of_cell? w _ h.2.1))

theorem ldK_but {a b : Addr} {u : Value} {w w' : World} {R : Nat} (h : LdK a u b w) (hb : But R w w') (ha : a.block ≠ R) (hbb : b.block ≠ R) : LdK a u b w' :=
  ldK_keep h (hb.block _ (World.block_lt_of_cell? w _ h.1) ha) (hb.block _ (World.block_lt_of_cell? w _ h.2.1) hbb)

theorem ldK_store {a b : Addr} {u : Value} {w : World} (h : LdK a u b w) (hn : b ≠ a) (x : Value) : LdK a u b (w.setCell b x) :=
  ⟨(World.cell?_setCell_other _ _ _ _ hn).trans h.1, by unfold heldC; rw [World.cell?_setCell_same _ _ _ h.2.1]; rfl, by rw [World.frozen?_setCell]; exact h.2.2⟩

/-- Some strings that are not too long. -/
def TextsP (w : World) (E : Ending) (w' : World) : Prop := ∃ cs : Array Value, E = .returned (.slice (some ⟨w.heap.size, 0, none⟩) 25 25) ∧ w' = w.alloc (.cells cs 9) ∧ ∀ i, i < 25 → ∃ s : ByteArray, cs[i]? = some (.string s) ∧ s.size ≤ 600

set_option maxRecDepth 100000 in
set_option maxHeartbeats 1000000 in
theorem l1Texts_any (w : World) : Calls Tryz.prog 45 #[] w (TextsP w) := by
  go_enter Tryz.func45, Tryz.ntmps45
  go_wp2_with fail
  go_ret
  refine ⟨_, rfl, rfl, fun i hi => ?_⟩
  have hc : i = 0 ∨ i = 1 ∨ i = 2 ∨ i = 3 ∨ i = 4 ∨ i = 5 ∨ i = 6 ∨ i = 7 ∨ i = 8 ∨ i = 9 ∨ i = 10 ∨ i = 11 ∨ i = 12 ∨ i = 13 ∨ i = 14 ∨ i = 15 ∨ i = 16 ∨ i = 17 ∨ i = 18 ∨ i = 19 ∨ i = 20 ∨ i = 21 ∨ i = 22 ∨ i = 23 ∨ i = 24 := by omega
  rcases hc with rfl | rfl | rfl | rfl | rfl | rfl | rfl | rfl | rfl | rfl | rfl | rfl | rfl | rfl | rfl | rfl | rfl | rfl | rfl | rfl | rfl | rfl | rfl | rfl | rfl
  all_goals exact ⟨_, rfl, by decide⟩

/-- What the draw of a program leaves. -/
def DrawP (R P : Nat) (w : World) (E : Ending) (w' : World) : Prop := ∃ (ts : List Int) (s : Sts) (At As : Option Addr) (ct cs : Nat), E = .returned (.agg #[.slice At ts.length ct, .slice As s.len cs]) ∧
  ReadsP w' w.heap.size ts s At As ct cs ∧ ts.length ≤ 600 ∧ s.size ≤ 600 ∧ SrcV w' R (P + 2000) ∧ But R w w'

theorem ReadsP.but {w w' : World} {R lo : Nat} {ts : List Int} {s : Sts} {At As : Option Addr} {ct cs : Nat} (h : ReadsP w lo ts s At As ct cs) (hb : But R w w') (hR : R < lo) : ReadsP w' lo ts s At As ct cs :=
  ⟨h.1.keep (Nat.le_refl _) hb.size fun p h1 h2 => World.cell?_of_block (hb.block p.block h2 (by omega)), h.2.but hb hR⟩

theorem ReadsP.setLow {w : World} {lo g o : Nat} {ts : List Int} {s : Sts} {At As : Option Addr} {ct cs : Nat} {x : Value} (h : ReadsP w lo ts s At As ct cs) (hg : g < lo) : ReadsP (w.setCell ⟨g, o, none⟩ x) lo ts s At As ct cs := by
  have hk : ∀ p : Addr, lo ≤ p.block → p.block < w.heap.size → (w.setCell ⟨g, o, none⟩ x).cell? p = w.cell? p := fun p h1 _ => World.cell?_setCell_other _ _ _ _ (fun e => by subst e; simp at h1; omega)
  exact ⟨h.1.keep (Nat.le_refl _) (by simp [World.setCell]) hk, h.2.keep (Nat.le_refl _) (by simp [World.setCell]) hk⟩

theorem ReadsP.mono {w : World} {lo lo' : Nat} {ts : List Int} {s : Sts} {At As : Option Addr} {ct cs : Nat} (h : ReadsP w lo ts s At As ct cs) (hl : lo' ≤ lo) : ReadsP w lo' ts s At As ct cs := ⟨h.1.mono hl (Nat.le_refl _), h.2.mono hl (Nat.le_refl _)⟩

theorem ReadsP.below {w w' : World} {lo : Nat} {ts : List Int} {s : Sts} {At As : Option Addr} {ct cs : Nat} (h : ReadsP w lo ts s At As ct cs) (hb : Below w.heap.size w w') : ReadsP w' lo ts s At As ct cs := ⟨(h.1.below' hb (Nat.le_refl _)).mono (Nat.le_refl _) hb.size, (h.2.below' hb (Nat.le_refl _)).mono (Nat.le_refl _) hb.size⟩

set_option maxRecDepth 100000 in
set_option maxHeartbeats 2000000 in
theorem l1Draw_any (R P : Nat) (w : World) (hs : SrcV w R P) (hP : P ≤ 5000) : Calls Tryz.prog 48 #[.pointer (some ⟨R, 0, none⟩)] w (DrawP R P w) := by
  have hRw := hs.lt
  obtain ⟨w0, hw0⟩ : ∃ w0, w.alloc (.cells #[.slice none 0 0, .slice none 0 0] 26) = w0 := ⟨_, rfl⟩
  have hb0 := (Below.refl w.heap.size w).alloc (Nat.le_refl _) (.cells #[.slice none 0 0, .slice none 0 0] 26)
  have X0 := Lib.hid (heap_alloc_new w (.cells #[.slice none 0 0, .slice none 0 0] 26))
  have S0 := Lib.hid (hs.below hb0)
  have N0 := Lib.hid (But.of_below (R := R) hb0 (Nat.le_refl _))
  have hz0 : w.heap.size + 1 ≤ (w.alloc (.cells #[.slice none 0 0, .slice none 0 0] 26)).heap.size := Nat.le_of_eq (by simp)
  rw [hw0] at X0 S0 N0 hz0
  clear hb0 hs
  go_enter Tryz.func48, Tryz.ntmps48
  go_upto_region 1 with (fail)
  clear hw0
  go_wp2_with fail
  refine (l1Texts_any w0).mono ?_
  rintro E w1 ⟨cs, rfl, he1, hcs⟩
  have hb1 : Below w0.heap.size w0 w1 := by rw [he1]; exact (Below.refl _ _).alloc (Nat.le_refl _) _
  have hT1 : w1.heap[w0.heap.size]? = some (.cells cs 9 (0, 0)) := by rw [he1]; exact heap_alloc_new w0 _
  have hz1 : w0.heap.size + 1 ≤ w1.heap.size := by rw [he1]; exact Nat.le_of_eq (by simp)
  have HT1 := Lib.hid hT1
  have S1 := Lib.hid (S0.out.below hb1)
  have N1 := Lib.hid (N0.out.trans (But.of_below hb1 (Nat.le_refl _)))
  have X1 := Lib.hid ((hb1.block w.heap.size (by omega)).trans X0.out)
  have HCS := Lib.hid hcs
  clear he1 hb1 hT1 hcs
  have HK := Lib.hid (pick_any R P 25 w1 (by omega) (by omega) S1.out (by omega))
  go_wp2_with fail
  refine HK.out.mono ?_
  rintro E w2 ⟨v, hv, rfl, ks, ko⟩
  obtain ⟨tx, htx, hsz⟩ := HCS.out v (by omega)
  have kz := Nat.le_of_eq ko.size.symm
  have hcell : w2.cell? ⟨w0.heap.size, v, none⟩ = some (.string tx) := (cell_of_block ((ko.block w0.heap.size (by omega)).trans HT1.out) v).trans htx
  have S2 := Lib.hid ks
  have N2 := Lib.hid (N1.out.trans (But.of_one ko))
  have X2 := Lib.hid ((ko.block w.heap.size (by omega)).trans X1.out)
  have hv25 : v < 25 := by omega
  clear ks ko HK HCS htx hv HT1
  go_wp2_with fail
  refine (parseProgram_any tx hsz w2).mono ?_
  rintro E w3 ⟨ts, s, At, As, ct, cb, b, rfl, hr, ht6, hs6, hb3⟩
  have hz3 := hb3.size
  obtain ⟨n, hn⟩ : ∃ n, ts.length = n := ⟨_, rfl⟩
  obtain ⟨m, hm⟩ : ∃ m, s.len = m := ⟨_, rfl⟩
  rw [hn, hm]
  have HN := Lib.hid hn
  have HM := Lib.hid hm
  rw [hn] at ht6
  have hba := (Below.refl w3.heap.size w3).alloc (Nat.le_refl _) (.cells #[.slice At n ct, .slice As m cb] 26)
  have h4z : w3.heap.size + 1 ≤ (w3.alloc (.cells #[.slice At n ct, .slice As m cb] 26)).heap.size := Nat.le_of_eq (by simp)
  have h4n := heap_alloc_new w3 (.cells #[.slice At n ct, .slice As m cb] 26)
  obtain ⟨w4, hw4⟩ : ∃ w4, w3.alloc (.cells #[.slice At n ct, .slice As m cb] 26) = w4 := ⟨_, rfl⟩
  have HR4 := Lib.hid (hr.below hba)
  have S4 := Lib.hid ((S2.out.below hb3).below hba)
  have N4 := Lib.hid ((N2.out.trans (But.of_below hb3 (Nat.le_refl _))).trans (But.of_below hba (Nat.le_refl _)))
  have X4 := Lib.hid ((hba.block w.heap.size (by omega)).trans ((hb3.block w.heap.size (by omega)).trans X2.out))
  rw [hw4] at HR4 S4 N4 X4 h4n h4z
  have Y4 := Lib.hid h4n
  have HS6 := Lib.hid hs6
  clear hn hm hba hr hb3 h4n hs6 hcell hsz
  have HK := Lib.hid (pick_any R (P + 1) 3 w4 (by omega) (by omega) S4.out (by omega))
  go_upto_region 3 with (fail)
  clear hw4
  go_wp2_with fail
  refine HK.out.mono ?_
  rintro E w5 ⟨u, hu, rfl, ks, ko⟩
  have kz5 := Nat.le_of_eq ko.size.symm
  have hX5 := (ko.block w.heap.size (by omega)).trans X4.out
  have hY5 := (ko.block w3.heap.size (by omega)).trans Y4.out
  have S5 := Lib.hid ks
  have N5 := Lib.hid (N4.out.trans (But.of_one ko))
  have HR5 := Lib.hid (HR4.out.but (But.of_one ko) (by omega))
  have z0 : w5.cell? ⟨w.heap.size, 0, none⟩ = some (.slice none 0 0) := (cell_of_block hX5 0).trans rfl
  have z1 : w5.cell? ⟨w.heap.size, 1, none⟩ = some (.slice none 0 0) := (cell_of_block hX5 1).trans rfl
  have y0 := frozen_of_block hX5 0
  have y1 := frozen_of_block hX5 1
  have x0 : w5.cell? ⟨w3.heap.size, 0, none⟩ = some (.slice At n ct) := (cell_of_block hY5 0).trans rfl
  have x1 : w5.cell? ⟨w3.heap.size, 1, none⟩ = some (.slice As m cb) := (cell_of_block hY5 1).trans rfl
  have X5 := Lib.hid hX5
  clear ks ko HK hX5 hY5
  have HEND : ∀ wf : World, wf = (w5.setCell ⟨w.heap.size, 0, none⟩ (.slice At n ct)).setCell ⟨w.heap.size, 1, none⟩ (.slice As m cb) → Hid (DrawP R P w (.returned (.agg #[.slice At n ct, .slice As m cb])) wf) := by
    rintro wf rfl
    refine ⟨ts, s, At, As, ct, cb, by rw [HN.out, HM.out], ?_, by rw [HN.out]; exact ht6, HS6.out, ?_, ?_⟩
    · exact ((HR5.out.setLow (by omega)).setLow (by omega)).mono (by omega)
    · repeat (refine SrcV.setB ?_ (by omega) _ _)
      exact S5.out.more (by omega)
    · repeat (refine But.setCell ?_ (Nat.le_refl _) _)
      exact N5.out
  replace HEND := Lib.hid HEND
  by_cases hu0 : 0 < u
  · have e0 : decide (0 < (u : Int)) = true := decide_eq_true (by omega)
    have e1 : decide (0 < u) = true := decide_eq_true hu0
    go_wp2_with fail
    exact bodyPost_ret (v := .agg #[.slice At n ct, .slice As m cb]) (by simp [results, Tryz.results48, go_sem, z0, z1]) rfl (HEND.out _ rfl).out
  obtain rfl : u = 0 := by omega
  have e0 : decide (0 < ((0 : Nat) : Int)) = false := rfl
  by_cases hn0 : n = 0
  · have e2 : ((n : Int) == 0) = true := by simp; omega
    have e3 : (n == 0) = true := by simp; omega
    clear hn0
    go_wp2_with fail
    exact bodyPost_ret (v := .agg #[.slice At n ct, .slice As m cb]) (by simp [results, Tryz.results48, go_sem, z0, z1]) rfl (HEND.out _ rfl).out
  have e2 : ((n : Int) == 0) = false := by simp; omega
  have e3 : (n == 0) = false := by simp; omega
  clear hn0 HEND hu
  go_upto_region 6 with (fail)
  obtain ⟨w6, hw6⟩ : ∃ w6, (w5.alloc (.cells #[.int .i64 1, .int .i64 2, .int .i64 2, .int .i64 3, .int .i64 4, .int .i64 4] 3)).alloc (.cells #[.slice (some ⟨w5.heap.size, 0, none⟩) 6 6, .slice none 0 0] 26) = w6 := ⟨_, rfl⟩
  have hb6 : Below w5.heap.size w5 w6 := by rw [← hw6]; exact ((Below.refl _ _).alloc (Nat.le_refl _) _).alloc (by simp) _
  have h6z : w5.heap.size + 2 ≤ w6.heap.size := by rw [← hw6]; exact Nat.le_of_eq (by simp)
  have h6t : w6.heap[w5.heap.size]? = some (.cells #[.int .i64 1, .int .i64 2, .int .i64 2, .int .i64 3, .int .i64 4, .int .i64 4] 3 (0, 0)) := by
    rw [← hw6]
    show ((w5.heap.push _).push _)[w5.heap.size]? = _
    simp only [Array.getElem?_push, Array.size_push]
    rw [if_neg (by omega), if_pos trivial]
  have h6p : w6.heap[w5.heap.size + 1]? = some (.cells #[.slice (some ⟨w5.heap.size, 0, none⟩) 6 6, .slice none 0 0] 26 (0, 0)) := by
    rw [← hw6]
    show ((w5.heap.push _).push _)[w5.heap.size + 1]? = _
    simp only [Array.getElem?_push, Array.size_push]
    rw [if_pos trivial]
  rw [hw6]
  clear hw6 z0 z1 y0 y1 x0 x1
  have hK1 : LdK ⟨w5.heap.size + 1, 0, none⟩ (.slice (some ⟨w5.heap.size, 0, none⟩) 6 6) ⟨w5.heap.size + 1, 1, none⟩ w6.drew := ldK_mk ((cell_of_block h6p 0).trans rfl) ((cell_of_block h6p 1).trans rfl) (frozen_of_block h6p 1)
  have hK1' : LdK ⟨w5.heap.size + 1, 0, none⟩ (.slice (some ⟨w5.heap.size, 0, none⟩) 6 6) ⟨w5.heap.size + 1, 1, none⟩ w6 := hK1
  have hbl := ((Below.refl w6.heap.size w6).alloc (Nat.le_refl _) (.cells #[.int .i64 5, .int .i64 4, .int .i64 7, .int .i64 3, .int .i64 8] 3)).drew
  have hK2 := ldK_below hK1' hbl
  have S6 := Lib.hid (S5.out.below hb6)
  have N6 := Lib.hid (N5.out.trans (But.of_below hb6 (Nat.le_refl _)))
  have X6 := Lib.hid ((hb6.block w.heap.size (by omega)).trans X5.out)
  have HNM := Lib.hid (num_any R (P + 1 + 1) w6.heap.size [5, 4, 7, 3, 8] (w6.alloc (.cells #[.int .i64 5, .int .i64 4, .int .i64 7, .int .i64 3, .int .i64 8] 3)).drew (heap_alloc_new w6 _) (by omega) (by decide) (by decide) (S6.out.below hbl) (by omega))
  have h6T := Lib.hid h6t
  have h6P := Lib.hid h6p
  have HBD := Lib.hid hbl
  clear hb6 h6t h6p hbl HN HM HS6 S5 N5 HR5 X5
  go_region_held3 (LdK ⟨w5.heap.size + 1, 0, none⟩ (.slice (some ⟨w5.heap.size, 0, none⟩) 6 6) ⟨w5.heap.size + 1, 1, none⟩)
    (first | with_reducible exact hK1 | with_reducible exact hK1' | with_reducible exact hK2 | with_reducible exact hK3 | with_reducible exact hK4 | with_reducible exact ldK_store hK4 (by simp) _)
    (first
      | (go_at_call 25; refine HNM.out.mono ?_; rintro E w7 ⟨v7, hv7, rfl, ks7, ko7⟩; have hK3 := ldK_but hK2 (But.of_one ko7) (by show w5.heap.size + 1 ≠ R; omega) (by show w5.heap.size + 1 ≠ R; omega); obtain ⟨q, rfl, hq8⟩ : ∃ q : Nat, v7 = (q : Int) ∧ q ≤ 8 := ⟨v7.toNat, by simp only [List.mem_cons, List.not_mem_nil, or_false] at hv7; omega, by simp only [List.mem_cons, List.not_mem_nil, or_false] at hv7; omega⟩)
      | (go_at_call 57; refine (some_two R _ _ _ _ (P + 1 + 1 + 1) _ hq8 (by omega) ks7).mono ?_; rintro E w8 ⟨rs, A8, c8, rfl, hR8, hl8, hz8, hs8, hb8⟩; have hK4 := ldK_but hK3 hb8 (by show w5.heap.size + 1 ≠ R; omega) (by show w5.heap.size + 1 ≠ R; omega)))
  have k7 : w6.heap.size + 1 ≤ w7.heap.size := by
    rw [ko7.size]
    exact Nat.le_of_eq (by show _ = (w6.alloc (.cells #[.int .i64 5, .int .i64 4, .int .i64 7, .int .i64 3, .int .i64 8] 3)).heap.size; simp)
  have k8 := hb8.size
  have hk : ∀ g, g ≠ R → g < w6.heap.size → w8.heap[g]? = w6.heap[g]? := fun g h1 h2 => (hb8.block g (by omega) h1).trans ((ko7.block g h1).trans (HBD.out.block g h2))
  have hP8 := (hk (w5.heap.size + 1) (by omega) (by omega)).trans h6P.out
  have hT8 := (hk w5.heap.size (by omega) (by omega)).trans h6T.out
  have hX8 := (hk w.heap.size (by omega) (by omega)).trans X6.out
  obtain ⟨w9, hw9⟩ : ∃ w9, w8.setCell ⟨w5.heap.size + 1, 1, none⟩ (.slice A8 (q + 1) c8) = w9 := ⟨_, rfl⟩
  have hO := (One.refl (w5.heap.size + 1) w8).set 1 (.slice A8 (q + 1) c8)
  have hP9 := block_set hP8 1 (.slice A8 (q + 1) c8)
  have hS9 := (hs8.setB (show R < w5.heap.size + 1 by omega) 1 (.slice A8 (q + 1) c8))
  have hN9 : But R w (w8.setCell ⟨w5.heap.size + 1, 1, none⟩ (.slice A8 (q + 1) c8)) := ((((N6.out.trans (But.of_below HBD.out (Nat.le_refl _))).trans (But.of_one ko7)).trans hb8)).setCell (by omega) _
  rw [hw9] at hO hP9 hS9 hN9 ⊢
  have hT9 := (hO.block w5.heap.size (by omega)).trans hT8
  have hX9 := (hO.block w.heap.size (by omega)).trans hX8
  have z0 : w9.cell? ⟨w.heap.size, 0, none⟩ = some (.slice none 0 0) := (cell_of_block hX9 0).trans rfl
  have z1 : w9.cell? ⟨w.heap.size, 1, none⟩ = some (.slice none 0 0) := (cell_of_block hX9 1).trans rfl
  have y0 := frozen_of_block hX9 0
  have y1 := frozen_of_block hX9 1
  have x0 : w9.cell? ⟨w5.heap.size + 1, 0, none⟩ = some (.slice (some ⟨w5.heap.size, 0, none⟩) 6 6) := (cell_of_block hP9 0).trans rfl
  have x1 : w9.cell? ⟨w5.heap.size + 1, 1, none⟩ = some (.slice A8 (q + 1) c8) := (cell_of_block hP9 1).trans rfl
  have hsz := hO.size
  have hread : Hid (ReadsP w9 (w.heap.size + 1) [1, 2, 2, 3, 4, 4] (ofR rs) (some ⟨w5.heap.size, 0, none⟩) A8 6 c8) := by
    refine ⟨⟨by simp, by unfold maxLen; omega, fun _ => ⟨_, rfl, by show w.heap.size + 1 ≤ w5.heap.size; omega, by show w5.heap.size < w9.heap.size; omega, fun j u hu => ?_⟩⟩, ?_⟩
    · rw [add_block, Nat.zero_add, cell_of_block hT9]
      match j, hu with
      | 0, hu => simp at hu; subst hu; rfl
      | 1, hu => simp at hu; subst hu; rfl
      | 2, hu => simp at hu; subst hu; rfl
      | 3, hu => simp at hu; subst hu; rfl
      | 4, hu => simp at hu; subst hu; rfl
      | 5, hu => simp at hu; subst hu; rfl
      | j + 6, hu => simp at hu
    · exact hR8.rep.2.keep (by omega) (Nat.le_of_eq hsz.symm) fun p h1 h2 => World.cell?_of_block (hO.block p.block (by omega))
  have hz : Hid ((ofR rs).size ≤ 600) := by
    unfold Hid
    rw [ofR_size]
    have h1 : q * (1 + szB 2) ≤ 8 * 13 := Nat.mul_le_mul hq8 (by decide)
    omega
  have HL := Lib.hid hl8
  have HS9 := Lib.hid (hS9.more (P' := P + 2000) (by
    have h1 : q * coB 2 ≤ 8 * 100 := Nat.mul_le_mul hq8 (by decide)
    omega))
  have HN9 := Lib.hid hN9
  clear hsz hl8 hz8 hR8 hs8 hb8 hK1 hK1' hK2 hK3 hK4 ks7 ko7 hv7 hw9 hO hP8 hT8 hX8 hP9 hT9 hX9 hk hS9 hN9 HNM
  go_wp2_with fail
  refine bodyPost_ret (v := .agg #[.slice (some ⟨w5.heap.size, 0, none⟩) 6 6, .slice A8 (q + 1) c8]) (by simp [results, Tryz.results48, go_sem, z0, z1]) rfl ⟨[1, 2, 2, 3, 4, 4], ofR rs, _, A8, 6, c8, by rw [ofR_len, HL.out]; rfl, ((hread.out.setLow (by omega)).setLow (by omega)).mono (by omega), by simp, hz.out, ?_, ?_⟩
  · repeat (refine SrcV.setB ?_ (by omega) _ _)
    exact HS9.out
  · repeat (refine But.setCell ?_ (Nat.le_refl _) _)
    exact HN9.out

end Go.Proofs.YtlddoookojjleaaGreatDoor
