/-
  The model's draw of the arguments of StmtValid.
-/

import Derived.Test.YtcaklhempmlpgaaMuG
namespace Go.Proofs.Ytcaklhempmlpgaa
open Go.RowKit Go.Deep
set_option linter.unusedVariables false

/-- What the draw leaves: types and a statement. -/
def StmD (w : World) (E : Ending) (w' : World) : Prop := ∃ (ts : List Int) (At : Option Addr) (ct : Nat) (op x y n : Int) (t e : Sts) (Bt : Option Addr) (bt : Nat) (Be : Option Addr) (be : Nat), E = .returned (.tuple #[.slice At ts.length ct, .agg #[.int .i64 op, .int .i64 x, .int .i64 y, .int .i64 n, .slice Bt t.len bt, .slice Be e.len be]]) ∧
  IntsV w' 0 w'.heap.size ts At ct ∧ RepV w' 0 w'.heap.size t Bt bt ∧ RepV w' 0 w'.heap.size e Be be ∧ ts.length ≤ 1000 ∧ t.size + e.size ≤ 100000 ∧ Below w.heap.size w w'

/-- What holds while the draw of a statement is laid out: the cell of the types, and the six cells of the answer. -/
abbrev StK (g PB : Nat) (u0 u1 : Value) (w : World) : Prop := w.cell? ⟨PB, 0, none⟩ = some u0 ∧ w.cell? ⟨PB, 1, none⟩ = some u1 ∧
  w.cell? ⟨g, 0, none⟩ = some (heldC w ⟨g, 0, none⟩) ∧ w.cell? ⟨g, 1, none⟩ = some (heldC w ⟨g, 1, none⟩) ∧ w.cell? ⟨g, 2, none⟩ = some (heldC w ⟨g, 2, none⟩) ∧
  w.cell? ⟨g, 3, none⟩ = some (heldC w ⟨g, 3, none⟩) ∧ w.cell? ⟨g, 4, none⟩ = some (heldC w ⟨g, 4, none⟩) ∧ w.cell? ⟨g, 5, none⟩ = some (heldC w ⟨g, 5, none⟩) ∧
  w.frozen? ⟨g, 0, none⟩ = false ∧ w.frozen? ⟨g, 1, none⟩ = false ∧ w.frozen? ⟨g, 2, none⟩ = false ∧ w.frozen? ⟨g, 3, none⟩ = false ∧ w.frozen? ⟨g, 4, none⟩ = false ∧ w.frozen? ⟨g, 5, none⟩ = false

theorem held_some {w : World} {a : Addr} {v : Value} (h : w.cell? a = some v) : w.cell? a = some (heldC w a) := by unfold heldC; rw [h]; rfl

theorem held_put {w : World} {a b : Addr} {x : Value} (h : w.cell? a = some (heldC w a)) : (w.setCell b x).cell? a = some (heldC (w.setCell b x) a) := by
  by_cases e : a = b
  · subst e
    exact held_some (World.cell?_setCell_same _ _ _ h)
  · exact held_some ((World.cell?_setCell_other _ _ _ _ (fun h' => e h'.symm)).trans h)

theorem stK_mk {g PB : Nat} {u0 u1 : Value} {w : World} {t t' : TypeId} (h : w.heap[PB]? = some (.cells #[u0, u1] t (0, 0))) (hn : w.heap[g]? = some (.cells #[.int .i64 0, .int .i64 0, .int .i64 0, .int .i64 0, .slice none 0 0, .slice none 0 0] t' (0, 0))) : StK g PB u0 u1 w :=
  ⟨(cell_of_block h 0).trans rfl, (cell_of_block h 1).trans rfl,
    held_some ((cell_of_block hn 0).trans (show _ = some (.int .i64 0) from rfl)), held_some ((cell_of_block hn 1).trans (show _ = some (.int .i64 0) from rfl)), held_some ((cell_of_block hn 2).trans (show _ = some (.int .i64 0) from rfl)),
    held_some ((cell_of_block hn 3).trans (show _ = some (.int .i64 0) from rfl)), held_some ((cell_of_block hn 4).trans (show _ = some (.slice none 0 0) from rfl)), held_some ((cell_of_block hn 5).trans (show _ = some (.slice none 0 0) from rfl)),
    frozen_of_block hn 0, frozen_of_block hn 1, frozen_of_block hn 2, frozen_of_block hn 3, frozen_of_block hn 4, frozen_of_block hn 5⟩

theorem stK_set {g PB : Nat} {u0 u1 x : Value} {o : Nat} {w : World} (h : StK g PB u0 u1 w) (hne : g ≠ PB) : StK g PB u0 u1 (w.setCell ⟨g, o, none⟩ x) := by
  obtain ⟨a, b, c0, c1, c2, c3, c4, c5, f0, f1, f2, f3, f4, f5⟩ := h
  have n1 : ∀ o', (⟨g, o, none⟩ : Addr) ≠ ⟨PB, o', none⟩ := fun o' e => by injection e with e; exact hne e
  exact ⟨(World.cell?_setCell_other _ _ _ _ (n1 0)).trans a, (World.cell?_setCell_other _ _ _ _ (n1 1)).trans b, held_put c0, held_put c1, held_put c2, held_put c3, held_put c4, held_put c5,
    (World.frozen?_setCell _ _ _ _).trans f0, (World.frozen?_setCell _ _ _ _).trans f1, (World.frozen?_setCell _ _ _ _).trans f2, (World.frozen?_setCell _ _ _ _).trans f3, (World.frozen?_setCell _ _ _ _).trans f4, (World.frozen?_setCell _ _ _ _).trans f5⟩

theorem stK_put {g PB : Nat} {u0 u1 x0 x1 x2 x3 x4 x5 : Value} {w : World} (h : StK g PB u0 u1 w) (hne : g ≠ PB) : StK g PB u0 u1 ((((((w.setCell ⟨g, 0, none⟩ x0).setCell ⟨g, 1, none⟩ x1).setCell ⟨g, 2, none⟩ x2).setCell ⟨g, 3, none⟩ x3).setCell ⟨g, 4, none⟩ x4).setCell ⟨g, 5, none⟩ x5) :=
  stK_set (stK_set (stK_set (stK_set (stK_set (stK_set h hne) hne) hne) hne) hne) hne

theorem repV_nil (w : World) (hi : Nat) : RepV w 0 hi .nil none 0 := ⟨Nat.le_refl _, by simp [maxLen], fun h => absurd h (by simp [Sts.len])⟩

/-- The cells from a block on stay as they are. -/
def Kp (lo : Nat) (w w' : World) : Prop := w.heap.size ≤ w'.heap.size ∧ ∀ p : Addr, lo ≤ p.block → p.block < w.heap.size → w'.cell? p = w.cell? p

theorem Kp.trans {lo : Nat} {w w1 w2 : World} (h : Kp lo w w1) (h2 : Kp lo w1 w2) : Kp lo w w2 := ⟨Nat.le_trans h.1 h2.1, fun p h3 h4 => (h2.2 p h3 (Nat.lt_of_lt_of_le h4 h.1)).trans (h.2 p h3 h4)⟩

theorem Kp.below {lo : Nat} {w w1 : World} (h : Below w.heap.size w w1) : Kp lo w w1 := ⟨h.size, fun p _ h2 => World.cell?_of_block (h.block p.block h2)⟩

theorem Kp.one {lo R : Nat} {w w1 : World} (h : One R w w1) (hR : R < lo) : Kp lo w w1 := ⟨Nat.le_of_eq h.size.symm, fun p h1 _ => World.cell?_of_block (h.block p.block (by omega))⟩

theorem Kp.set {lo g o : Nat} {w : World} {x : Value} (hg : g < lo) : Kp lo w (w.setCell ⟨g, o, none⟩ x) := ⟨by simp [World.setCell], fun p h1 _ => World.cell?_setCell_other _ _ _ _ (fun e => by subst e; exact absurd h1 (by simp; omega))⟩

theorem Kp.ints {lo : Nat} {w w1 : World} {xs : List Int} {A : Option Addr} {c : Nat} (h : Kp lo w w1) (hx : IntsV w lo w.heap.size xs A c) : IntsV w1 lo w1.heap.size xs A c := hx.keep (Nat.le_refl _) h.1 h.2

theorem Kp.rep {lo : Nat} {w w1 : World} {s : Sts} {A : Option Addr} {c : Nat} (h : Kp lo w w1) (hx : RepV w lo w.heap.size s A c) : RepV w1 lo w1.heap.size s A c := hx.keep (Nat.le_refl _) h.1 h.2

theorem Kp.put {lo g : Nat} {w : World} {x0 x1 x2 x3 x4 x5 : Value} (hg : g < lo) : Kp lo w ((((((w.setCell ⟨g, 0, none⟩ x0).setCell ⟨g, 1, none⟩ x1).setCell ⟨g, 2, none⟩ x2).setCell ⟨g, 3, none⟩ x3).setCell ⟨g, 4, none⟩ x4).setCell ⟨g, 5, none⟩ x5) :=
  (((((Kp.set hg).trans (Kp.set hg)).trans (Kp.set hg)).trans (Kp.set hg)).trans (Kp.set hg)).trans (Kp.set hg)

theorem below_put {B g : Nat} {a w : World} {x0 x1 x2 x3 x4 x5 : Value} (h : Below B a w) (hg : B ≤ g) : Below B a ((((((w.setCell ⟨g, 0, none⟩ x0).setCell ⟨g, 1, none⟩ x1).setCell ⟨g, 2, none⟩ x2).setCell ⟨g, 3, none⟩ x3).setCell ⟨g, 4, none⟩ x4).setCell ⟨g, 5, none⟩ x5) :=
  (((((h.setCell hg _).setCell hg _).setCell hg _).setCell hg _).setCell hg _).setCell hg _

set_option maxRecDepth 100000 in
set_option maxHeartbeats 2000000 in
theorem drawStmtValid_any (nb cb : Nat) (Ab : Option Addr) (w : World) (hB : ByteV w w.heap.size nb Ab cb) : Calls Try.prog 17 #[.slice Ab nb cb] w (StmD w) := by
  obtain ⟨w0, hw0⟩ : ∃ w0, w.alloc (.cells #[.int .i64 0, .int .i64 0, .int .i64 0, .int .i64 0, .slice none 0 0, .slice none 0 0] 41) = w0 := ⟨_, rfl⟩
  have hb0 := (Below.refl w.heap.size w).alloc (Nat.le_refl _) (.cells #[.int .i64 0, .int .i64 0, .int .i64 0, .int .i64 0, .slice none 0 0, .slice none 0 0] 41)
  have X0 := Lib.hid (heap_alloc_new w (.cells #[.int .i64 0, .int .i64 0, .int .i64 0, .int .i64 0, .slice none 0 0, .slice none 0 0] 41))
  have hz0 : w.heap.size + 1 ≤ (w.alloc (.cells #[.int .i64 0, .int .i64 0, .int .i64 0, .int .i64 0, .slice none 0 0, .slice none 0 0] 41)).heap.size := Nat.le_of_eq (by simp)
  have HO := Lib.hid (l17Open_any nb cb Ab (w.alloc (.cells #[.int .i64 0, .int .i64 0, .int .i64 0, .int .i64 0, .slice none 0 0, .slice none 0 0] 41)) (hB.below hb0 (by simp)))
  rw [hw0] at X0 hz0 HO
  have HB0 : Hid (Below w.heap.size w w0) := by rw [← hw0]; exact hb0
  clear hb0 hB
  go_enter Try.func17, Try.ntmps17
  go_upto_region 1 with (fail)
  clear hw0
  go_wp2_with fail
  refine HO.out.mono ?_
  rintro E w1 ⟨rfl, hs1, hb1⟩
  have hz1 := hb1.size
  have hsl := hs1.lt
  obtain ⟨R, hR⟩ : ∃ R, w0.heap.size = R := ⟨_, rfl⟩
  have S1 := Lib.hid hs1
  have X1 := Lib.hid ((hb1.block w.heap.size (by omega)).trans X0.out)
  have N1 := Lib.hid (HB0.out.trans (hb1.mono (by omega)))
  rw [hR] at S1 hz0 hz1 hsl
  rw [hR]
  clear hs1 hb1 HO hR
  have HBR := Lib.hid (l1Draw_any R 0 w1 S1.out (by omega))
  go_wp2_with fail
  refine HBR.out.mono ?_
  rintro E w2 ⟨ts, s, At, As, ct, cs, rfl, hr2, ht, hs, hs2, hb2⟩
  have hz2 := hb2.size
  have T2 := Lib.hid (hr2.1.mono (Nat.zero_le _) (Nat.le_refl _))
  have R2 := Lib.hid (hr2.2.mono (Nat.zero_le _) (Nat.le_refl _))
  have HMU := Lib.hid (l1Mutate_any R _ ts s At As ct cs w2 hs2 (by omega) (by omega) (by omega) T2.out R2.out)
  have X2 := Lib.hid ((hb2.block w.heap.size (by omega) (by omega)).trans X1.out)
  have N2 := Lib.hid (N1.out.trans ((hb2.below (by omega)).mono (by omega)))
  clear hr2 ht hs hs2 hb2 HBR
  go_wp2_with fail
  refine HMU.out.mono ?_
  rintro E w3 ⟨us, s, At, As, ct, cs, rfl, hr3, ht, hs, hs3, hb3⟩
  have hz3 := hb3.size
  have X3 := Lib.hid ((hb3.block w.heap.size (by omega) (by omega)).trans X2.out)
  have N3 := Lib.hid (N2.out.trans ((hb3.below (by omega)).mono (by omega)))
  clear HMU T2 R2 X2 N2 X1 N1
  obtain ⟨n, hn⟩ : ∃ n, us.length = n := ⟨_, rfl⟩
  obtain ⟨m, hm⟩ : ∃ m, s.len = m := ⟨_, rfl⟩
  have HN := Lib.hid hn
  have HM := Lib.hid hm
  rw [hn, hm]
  have hba := (Below.refl w3.heap.size w3).alloc (Nat.le_refl _) (.cells #[.slice At n ct, .slice As m cs] 26)
  have h4n := heap_alloc_new w3 (.cells #[.slice At n ct, .slice As m cs] 26)
  have h4z : w3.heap.size + 1 ≤ (w3.alloc (.cells #[.slice At n ct, .slice As m cs] 26)).heap.size := Nat.le_of_eq (by simp)
  obtain ⟨w4, hw4⟩ : ∃ w4, w3.alloc (.cells #[.slice At n ct, .slice As m cs] 26) = w4 := ⟨_, rfl⟩
  have T4 := Lib.hid ((Kp.below (lo := w2.heap.size) hba).ints hr3.1)
  have R4 := Lib.hid ((Kp.below (lo := w2.heap.size) hba).rep hr3.2)
  have S4 := Lib.hid (hs3.below hba)
  have N4 := Lib.hid (N3.out.trans (hba.mono (by omega)))
  have X4 := Lib.hid ((hba.block w.heap.size (by omega)).trans X3.out)
  rw [hw4] at T4 R4 S4 N4 X4 h4n h4z
  have Y4 := Lib.hid h4n
  have HT := Lib.hid ht
  have HS := Lib.hid hs
  obtain ⟨PB, hPB⟩ : ∃ PB, w3.heap.size = PB := ⟨_, rfl⟩
  rw [hPB] at Y4 h4z hz3
  obtain ⟨LO, hLO⟩ : ∃ LO, w2.heap.size = LO := ⟨_, rfl⟩
  rw [hLO] at T4 R4 hz3 hz2
  have y0 : w4.cell? ⟨PB, 0, none⟩ = some (.slice At n ct) := (cell_of_block Y4.out 0).trans rfl
  have y1 : w4.cell? ⟨PB, 1, none⟩ = some (.slice As m cs) := (cell_of_block Y4.out 1).trans rfl
  clear hn hm hba h4n hr3 ht hs hs3 hb3 X3 N3 hLO
  by_cases hm0 : m = 0
  · subst hm0
    go_upto_region 4 with (fail)
    have hne : w.heap.size ≠ PB := by omega
    have hS0 : StK w.heap.size PB (.slice At n ct) (.slice As 0 cs) w4 := stK_mk Y4.out X4.out
    have hSd : StK w.heap.size PB (.slice At n ct) (.slice As 0 cs) w4.drew := hS0
    have hB1 : Below w4.heap.size w4 (w4.alloc (.cells #[.int .i64 0, .int .i64 1, .int .i64 9] 3)).drew := ((Below.refl w4.heap.size w4).alloc (by simp) (.cells #[.int .i64 0, .int .i64 1, .int .i64 9] 3)).drew
    have hS1 : StK w.heap.size PB (.slice At n ct) (.slice As 0 cs) (w4.alloc (.cells #[.int .i64 0, .int .i64 1, .int .i64 9] 3)).drew := stK_mk ((hB1.block PB (by omega)).trans Y4.out) ((hB1.block w.heap.size (by omega)).trans X4.out)
    have hB2 : Below w4.heap.size w4 (w4.alloc (.cells #[.int .i64 0, .int .i64 1] 3)).drew := ((Below.refl w4.heap.size w4).alloc (by simp) (.cells #[.int .i64 0, .int .i64 1] 3)).drew
    have hS2 : StK w.heap.size PB (.slice At n ct) (.slice As 0 cs) (w4.alloc (.cells #[.int .i64 0, .int .i64 1] 3)).drew := stK_mk ((hB2.block PB (by omega)).trans Y4.out) ((hB2.block w.heap.size (by omega)).trans X4.out)
    have hB12 : Below w4.heap.size w4 ((w4.alloc (.cells #[.int .i64 0, .int .i64 1, .int .i64 9] 3)).alloc (.cells #[.int .i64 0, .int .i64 1] 3)).drew := (((Below.refl w4.heap.size w4).alloc (by simp) (.cells #[.int .i64 0, .int .i64 1, .int .i64 9] 3)).alloc (by simp) (.cells #[.int .i64 0, .int .i64 1] 3)).drew
    have hS12 : StK w.heap.size PB (.slice At n ct) (.slice As 0 cs) ((w4.alloc (.cells #[.int .i64 0, .int .i64 1, .int .i64 9] 3)).alloc (.cells #[.int .i64 0, .int .i64 1] 3)).drew := stK_mk ((hB12.block PB (by omega)).trans Y4.out) ((hB12.block w.heap.size (by omega)).trans X4.out)
    have hB21 : Below w4.heap.size w4 ((w4.alloc (.cells #[.int .i64 0, .int .i64 1] 3)).alloc (.cells #[.int .i64 0, .int .i64 1, .int .i64 9] 3)).drew := (((Below.refl w4.heap.size w4).alloc (by simp) (.cells #[.int .i64 0, .int .i64 1] 3)).alloc (by simp) (.cells #[.int .i64 0, .int .i64 1, .int .i64 9] 3)).drew
    have hS21 : StK w.heap.size PB (.slice At n ct) (.slice As 0 cs) ((w4.alloc (.cells #[.int .i64 0, .int .i64 1] 3)).alloc (.cells #[.int .i64 0, .int .i64 1, .int .i64 9] 3)).drew := stK_mk ((hB21.block PB (by omega)).trans Y4.out) ((hB21.block w.heap.size (by omega)).trans X4.out)
    have hq1 : (w4.alloc (.cells #[.int .i64 0, .int .i64 1, .int .i64 9] 3)).heap.size = w4.heap.size + 1 := by simp
    have hq2 : (w4.alloc (.cells #[.int .i64 0, .int .i64 1] 3)).heap.size = w4.heap.size + 1 := by simp
    have l1a : (w4.alloc (.cells #[.int .i64 0, .int .i64 1, .int .i64 9] 3)).drew.heap[w4.heap.size]? = some (.cells (([0, 1, 9] : List Int).map (Value.int .i64)).toArray 3 (0, 0)) := heap_alloc_new w4 _
    have l1b : ((w4.alloc (.cells #[.int .i64 0, .int .i64 1, .int .i64 9] 3)).alloc (.cells #[.int .i64 0, .int .i64 1] 3)).drew.heap[w4.heap.size]? = some (.cells (([0, 1, 9] : List Int).map (Value.int .i64)).toArray 3 (0, 0)) := (((Below.refl (w4.alloc (.cells #[.int .i64 0, .int .i64 1, .int .i64 9] 3)).heap.size (w4.alloc (.cells #[.int .i64 0, .int .i64 1, .int .i64 9] 3))).alloc (Nat.le_refl _) (.cells #[.int .i64 0, .int .i64 1] 3)).block w4.heap.size (by omega)).trans (heap_alloc_new w4 _)
    have l1c : ((w4.alloc (.cells #[.int .i64 0, .int .i64 1] 3)).alloc (.cells #[.int .i64 0, .int .i64 1, .int .i64 9] 3)).drew.heap[w4.heap.size + 1]? = some (.cells (([0, 1, 9] : List Int).map (Value.int .i64)).toArray 3 (0, 0)) := by rw [← hq2]; exact heap_alloc_new (w4.alloc (.cells #[.int .i64 0, .int .i64 1] 3)) _
    have l2b : ((w4.alloc (.cells #[.int .i64 0, .int .i64 1, .int .i64 9] 3)).alloc (.cells #[.int .i64 0, .int .i64 1] 3)).drew.heap[w4.heap.size + 1]? = some (.cells (([0, 1] : List Int).map (Value.int .i64)).toArray 3 (0, 0)) := by rw [← hq1]; exact heap_alloc_new (w4.alloc (.cells #[.int .i64 0, .int .i64 1, .int .i64 9] 3)) _
    have l2c : ((w4.alloc (.cells #[.int .i64 0, .int .i64 1] 3)).alloc (.cells #[.int .i64 0, .int .i64 1, .int .i64 9] 3)).drew.heap[w4.heap.size]? = some (.cells (([0, 1] : List Int).map (Value.int .i64)).toArray 3 (0, 0)) := (((Below.refl (w4.alloc (.cells #[.int .i64 0, .int .i64 1] 3)).heap.size (w4.alloc (.cells #[.int .i64 0, .int .i64 1] 3))).alloc (Nat.le_refl _) (.cells #[.int .i64 0, .int .i64 1, .int .i64 9] 3)).block w4.heap.size (by omega)).trans (heap_alloc_new w4 _)
    have hN1 : Calls Try.prog 23 #[.pointer (some ⟨R, 0, none⟩), .slice (some ⟨w4.heap.size, 0, none⟩) 3 3] (w4.alloc (.cells #[.int .i64 0, .int .i64 1, .int .i64 9] 3)).drew _ := num_any R _ w4.heap.size [0, 1, 9] (w4.alloc (.cells #[.int .i64 0, .int .i64 1, .int .i64 9] 3)).drew l1a (by omega) (by decide) (by decide) (S4.out.below hB1) (by omega)
    have HN1 := Lib.hid hN1
    clear hN1
    have hN2 : Calls Try.prog 23 #[.pointer (some ⟨R, 0, none⟩), .slice (some ⟨w4.heap.size, 0, none⟩) 3 3] ((w4.alloc (.cells #[.int .i64 0, .int .i64 1, .int .i64 9] 3)).alloc (.cells #[.int .i64 0, .int .i64 1] 3)).drew _ := num_any R _ w4.heap.size [0, 1, 9] ((w4.alloc (.cells #[.int .i64 0, .int .i64 1, .int .i64 9] 3)).alloc (.cells #[.int .i64 0, .int .i64 1] 3)).drew l1b (by omega) (by decide) (by decide) (S4.out.below hB12) (by omega)
    have HN2 := Lib.hid hN2
    clear hN2
    have hN3 : Calls Try.prog 23 #[.pointer (some ⟨R, 0, none⟩), .slice (some ⟨(w4.heap.size + 1), 0, none⟩) 3 3] ((w4.alloc (.cells #[.int .i64 0, .int .i64 1] 3)).alloc (.cells #[.int .i64 0, .int .i64 1, .int .i64 9] 3)).drew _ := num_any R _ (w4.heap.size + 1) [0, 1, 9] ((w4.alloc (.cells #[.int .i64 0, .int .i64 1] 3)).alloc (.cells #[.int .i64 0, .int .i64 1, .int .i64 9] 3)).drew l1c (by omega) (by decide) (by decide) (S4.out.below hB21) (by omega)
    have HN3 := Lib.hid hN3
    clear hN3
    go_region_held3 (StK w.heap.size PB (.slice At n ct) (.slice As 0 cs))
      (first | with_reducible exact hS0 | with_reducible exact hSd | with_reducible exact hS1 | with_reducible exact hS2 | with_reducible exact hS12 | with_reducible exact hS21 | with_reducible exact hS7 | with_reducible exact hS8 | with_reducible exact hS9 | with_reducible exact stK_put hS9 hne)
      (first
        | (go_at_call 23; with_reducible refine HN1.out.mono ?_; rintro E w7 ⟨q, hq, rfl, ks7, ko7⟩; have y7 := (ko7.block PB (by omega)).trans ((hB1.block PB (by omega)).trans Y4.out); have x7 := (ko7.block w.heap.size (by omega)).trans ((hB1.block w.heap.size (by omega)).trans X4.out); have hS7 : StK w.heap.size PB (.slice At n ct) (.slice As 0 cs) w7 := stK_mk y7 x7; have K7 := Lib.hid ((Kp.below (lo := LO) hB1).trans (Kp.one ko7 (by omega))); have N7 := Lib.hid ((N4.out.trans (hB1.mono (by omega))).trans (ko7.below (by omega))); have h8 := (Below.refl w7.heap.size w7).alloc (Nat.le_refl _) (.cells #[.int .i64 0, .int .i64 1] 3); have y8 := (h8.block PB (heap_lt y7)).trans y7; have x8 := (h8.block w.heap.size (heap_lt x7)).trans x7; have hS8 : StK w.heap.size PB (.slice At n ct) (.slice As 0 cs) (w7.alloc (.cells #[.int .i64 0, .int .i64 1] 3)) := stK_mk y8 x8; have K8 := Lib.hid (K7.out.trans (Kp.below h8)); have N8 := Lib.hid (N7.out.trans (h8.mono (by have := N7.out.size; omega))); have hC2 : Calls Try.prog 23 #[.pointer (some ⟨R, 0, none⟩), .slice (some ⟨w7.heap.size, 0, none⟩) 2 2] (w7.alloc (.cells #[.int .i64 0, .int .i64 1] 3)) _ := (num_any R _ w7.heap.size [0, 1] (w7.alloc (.cells #[.int .i64 0, .int .i64 1] 3)) (heap_alloc_new w7 _) (Nat.ne_of_lt ks7.lt) (by decide) (by decide) (ks7.below h8) (by omega)); have HC2 := Lib.hid hC2; clear HN1 HN2 HN3 hC2)
        | (go_at_call 23; with_reducible refine HN2.out.mono ?_; rintro E w7 ⟨q, hq, rfl, ks7, ko7⟩; have y7 := (ko7.block PB (by omega)).trans ((hB12.block PB (by omega)).trans Y4.out); have x7 := (ko7.block w.heap.size (by omega)).trans ((hB12.block w.heap.size (by omega)).trans X4.out); have hS7 : StK w.heap.size PB (.slice At n ct) (.slice As 0 cs) w7 := stK_mk y7 x7; have K7 := Lib.hid ((Kp.below (lo := LO) hB12).trans (Kp.one ko7 (by omega))); have N7 := Lib.hid ((N4.out.trans (hB12.mono (by omega))).trans (ko7.below (by omega))); have y8 := y7; have x8 := x7; have hS8 := hS7; have K8 := K7; have N8 := N7; have hC2 : Calls Try.prog 23 #[.pointer (some ⟨R, 0, none⟩), .slice (some ⟨(w4.heap.size + 1), 0, none⟩) 2 2] w7 _ := (num_any R _ (w4.heap.size + 1) [0, 1] w7 ((ko7.block (w4.heap.size + 1) (by omega)).trans l2b) (by omega) (by decide) (by decide) ks7 (by omega)); have HC2 := Lib.hid hC2; clear HN1 HN2 HN3 hC2)
        | (go_at_call 23; with_reducible refine HN3.out.mono ?_; rintro E w7 ⟨q, hq, rfl, ks7, ko7⟩; have y7 := (ko7.block PB (by omega)).trans ((hB21.block PB (by omega)).trans Y4.out); have x7 := (ko7.block w.heap.size (by omega)).trans ((hB21.block w.heap.size (by omega)).trans X4.out); have hS7 : StK w.heap.size PB (.slice At n ct) (.slice As 0 cs) w7 := stK_mk y7 x7; have K7 := Lib.hid ((Kp.below (lo := LO) hB21).trans (Kp.one ko7 (by omega))); have N7 := Lib.hid ((N4.out.trans (hB21.mono (by omega))).trans (ko7.below (by omega))); have y8 := y7; have x8 := x7; have hS8 := hS7; have K8 := K7; have N8 := N7; have hC2 : Calls Try.prog 23 #[.pointer (some ⟨R, 0, none⟩), .slice (some ⟨w4.heap.size, 0, none⟩) 2 2] w7 _ := (num_any R _ w4.heap.size [0, 1] w7 ((ko7.block w4.heap.size (by omega)).trans l2c) (by omega) (by decide) (by decide) ks7 (by omega)); have HC2 := Lib.hid hC2; clear HN1 HN2 HN3 hC2)
        | (go_at_call 23; with_reducible refine HC2.out.mono ?_; rintro E w9 ⟨q2, hq2, rfl, ks9, ko9⟩; have y9 := (ko9.block PB (by omega)).trans y8; have x9 := (ko9.block w.heap.size (by omega)).trans x8; have hS9 : StK w.heap.size PB (.slice At n ct) (.slice As 0 cs) w9 := stK_mk y9 x9; have K9 := Lib.hid (K8.out.trans (Kp.one ko9 (by omega))); have N9 := Lib.hid (N8.out.trans (ko9.below (by omega)))))
    all_goals
      have z0 : w9.cell? ⟨w.heap.size, 0, none⟩ = some (.int .i64 0) := (cell_of_block x9 0).trans rfl
      have z1 : w9.cell? ⟨w.heap.size, 1, none⟩ = some (.int .i64 0) := (cell_of_block x9 1).trans rfl
      have z2 : w9.cell? ⟨w.heap.size, 2, none⟩ = some (.int .i64 0) := (cell_of_block x9 2).trans rfl
      have z3 : w9.cell? ⟨w.heap.size, 3, none⟩ = some (.int .i64 0) := (cell_of_block x9 3).trans rfl
      have z4 : w9.cell? ⟨w.heap.size, 4, none⟩ = some (.slice none 0 0) := (cell_of_block x9 4).trans rfl
      have z5 : w9.cell? ⟨w.heap.size, 5, none⟩ = some (.slice none 0 0) := (cell_of_block x9 5).trans rfl
      clear hS7 hS8 hS9 HC2 hS0 hSd hS1 hS2 hS12 hS21 y7 y8 y9 x7 x8 l1a l1b l1c l2b l2c hB1 hB2 hB12 hB21 ks7 ks9 ko7 ko9 hq hq2 K7 K8 N7 N8
      have hLW : w.heap.size < LO := by omega
      go_wp2_with fail
      exact bodyPost_ret (v := .tuple #[.slice At n ct, .agg #[.int .i64 q, .int .i64 q2, .int .i64 0, .int .i64 0, .slice none 0 0, .slice none 0 0]]) (by simp [results, Try.results17, go_sem, z0, z1, z2, z3, z4, z5]) rfl ⟨us, At, ct, q, q2, 0, 0, .nil, .nil, none, 0, none, 0, by rw [HN.out]; rfl, ((K9.out.trans (Kp.put hLW)).ints T4.out).mono (Nat.zero_le _) (Nat.le_refl _), repV_nil _ _, repV_nil _ _, HT.out, by simp [Sts.size], below_put N9.out (Nat.le_refl _)⟩
  · obtain ⟨b0, hb0, -⟩ := R4.out.2.2 (by rw [HM.out]; omega)
    subst hb0
    go_upto_region 5 with (fail)
    have hne : w.heap.size ≠ PB := by omega
    have hLW : w.heap.size < LO := by omega
    have hS0 : StK w.heap.size PB (.slice At n ct) (.slice (some b0) m cs) w4 := stK_mk Y4.out X4.out
    have hSd : StK w.heap.size PB (.slice At n ct) (.slice (some b0) m cs) w4.drew := hS0
    have hBd : Below w4.heap.size w4 w4.drew := (Below.refl w4.heap.size w4).drew
    have hml : m ≤ 40000 := by have h1 := HS.out; have h2 := HM.out; have h3 := s.len_le_size; omega
    have HPK := Lib.hid (pick_any R _ (m : Int) w4.drew (by omega) (by omega) (S4.out.below hBd) (by omega))
    go_region_law ((go_simp; go_at_call 31; (with_reducible refine HPK.out.mono ?_); rintro E w7 ⟨v, hv, rfl, ks7, ko7⟩; have y7 := (ko7.block PB (by omega)).trans ((hBd.block PB (by omega)).trans Y4.out); have x7 := (ko7.block w.heap.size (by omega)).trans ((hBd.block w.heap.size (by omega)).trans X4.out); have hS7 : StK w.heap.size PB (.slice At n ct) (.slice (some b0) m cs) w7 := stK_mk y7 x7; have K7 := Lib.hid ((Kp.below (lo := LO) hBd).trans (Kp.one ko7 (by omega))); have N7 := Lib.hid ((N4.out.trans (hBd.mono (by omega))).trans (ko7.below (by omega))); have hlt : v < m := (by omega); obtain ⟨b, op, x, y, n', t, e, hbb, hlo, hhi, hd, Bt, bt, Be, be, ⟨c0, c1, c2, c3, c4, c5⟩, ht, he⟩ := (K7.out.rep R4.out).elem (k := v) (by rw [HM.out]; exact hlt); have hbb' := Option.some.inj hbb; subst hbb'; have HT7 := Lib.hid ht; have HE7 := Lib.hid he; have HD := Lib.hid hd; clear ht he hd hbb))
    all_goals
      have z0 : w7.cell? ⟨w.heap.size, 0, none⟩ = some (.int .i64 0) := (cell_of_block x7 0).trans rfl
      have z1 : w7.cell? ⟨w.heap.size, 1, none⟩ = some (.int .i64 0) := (cell_of_block x7 1).trans rfl
      have z2 : w7.cell? ⟨w.heap.size, 2, none⟩ = some (.int .i64 0) := (cell_of_block x7 2).trans rfl
      have z3 : w7.cell? ⟨w.heap.size, 3, none⟩ = some (.int .i64 0) := (cell_of_block x7 3).trans rfl
      have z4 : w7.cell? ⟨w.heap.size, 4, none⟩ = some (.slice none 0 0) := (cell_of_block x7 4).trans rfl
      have z5 : w7.cell? ⟨w.heap.size, 5, none⟩ = some (.slice none 0 0) := (cell_of_block x7 5).trans rfl
      have hsz := RepV.drop_sizes HD.out
      have HSZ := Lib.hid hsz
      clear hS7 hS0 hSd hBd y7 x7 HPK ks7 ko7 hv hsz c0 c1 c2 c3 c4 c5
      go_wp2_with fail
      exact bodyPost_ret (v := .tuple #[.slice At n ct, .agg #[.int .i64 op, .int .i64 x, .int .i64 y, .int .i64 n', .slice Bt t.len bt, .slice Be e.len be]]) (by simp [results, Try.results17, go_sem, z0, z1, z2, z3, z4, z5]) rfl ⟨us, At, ct, op, x, y, n', t, e, Bt, bt, Be, be, by rw [HN.out], ((K7.out.trans (Kp.put hLW)).ints T4.out).mono (Nat.zero_le _) (Nat.le_refl _), ((Kp.put hLW).rep HT7.out).mono (Nat.zero_le _) (Nat.le_refl _), ((Kp.put hLW).rep HE7.out).mono (Nat.zero_le _) (Nat.le_refl _), HT.out, by have h1 := HSZ.out; have h2 := HS.out; omega, below_put N7.out (Nat.le_refl _)⟩

end Go.Proofs.Ytcaklhempmlpgaa
