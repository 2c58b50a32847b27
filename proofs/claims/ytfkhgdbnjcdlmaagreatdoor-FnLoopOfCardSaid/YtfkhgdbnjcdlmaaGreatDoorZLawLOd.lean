/-
  Whatever the bytes: the points of a loop are reached from each other, its first one dominates them, and LoopOf answers as its model does. Conditions: none.
-/
import Derived.Test.YtfkhgdbnjcdlmaaGreatDoorZPuG
import Derived.Test.YtfkhgdbnjcdlmaaGreatDoorZDrDom
import Derived.Test.YtfkhgdbnjcdlmaaGreatDoorZBcG
import Derived.Test.YtfkhgdbnjcdlmaaGreatDoorZImD
import Derived.Test.YtfkhgdbnjcdlmaaGreatDoorZPathF
import Derived.Test.YtfkhgdbnjcdlmaaGreatDoorZLpR
import Derived.Test.YtfkhgdbnjcdlmaaGreatDoorZLpS12
import Derived.Test.YtfkhgdbnjcdlmaaGreatDoorZTab
import Derived.Test.YtfkhgdbnjcdlmaaGreatDoorRows
import Derived.Test.YtfkhgdbnjcdlmaaGreatDoorCards
import Derived.Test.YtfkhgdbnjcdlmaaGreatDoorTie
import Derived.LaidMore
import Derived.SevenTiedAt
import Derived.WalkKit
import Derived.ProofKit
import Derived.OpenShut
import Derived.Lib.SmallJoins
import Derived.Deep.RegionHeld3
import Derived.Deep.DeepCutAuto
import Derived.Deep.QuietTactic
namespace Go.Proofs.YtfkhgdbnjcdlmaaGreatDoor.fnLoopOf
open Go.ChangeShapes Go.WideShapes Go.ChangeAt Go.RowKit Go.Deep Go.Joins
set_option linter.unusedVariables false

theorem rowI_formN {w : World} {B n : Nat} {v : Value} {xs : List Int} (h : RowI w B v xs) (hn : xs.length = n) : ∃ A c, v = .slice A n c ∧ n ≤ c ∧ c ≤ maxLen := by
  obtain ⟨A, c, h1, h2, h3, _⟩ := own_form h.own
  subst hn
  exact ⟨A, c, h1, h2, h3⟩

theorem rowI_form {w : World} {B : Nat} {v : Value} {xs : List Int} (h : RowI w B v xs) : ∃ A c, v = .slice A xs.length c ∧ xs.length ≤ c ∧ c ≤ maxLen := rowI_formN h rfl

theorem domI_iff {ok : Bool} {s : Sts} {a b : Int} : domI ok s a b = true ↔ ok = true ∧ ∃ x y : Nat, a = (x : Int) ∧ b = (y : Int) ∧ x < (progPts s).length ∧ y < (progPts s).length ∧ DomP (nextN (progPts s)) x y := by
  unfold domI
  rw [Bool.and_eq_true]
  unfold hasB domAB
  simp only [decide_eq_true_eq]
  cases ok
  · simp only [pointsB]
    constructor
    · rintro ⟨h, _⟩
      simp at h
      omega
    · rintro ⟨h, _⟩
      cases h
  · simp only [pointsB, if_true]
    constructor
    · rintro ⟨h, hd⟩
      exact ⟨trivial, a.toNat, b.toNat, by omega, by omega, by omega, by omega, hd⟩
    · rintro ⟨_, x, y, rfl, rfl, h1, h2, h3⟩
      exact ⟨by omega, by rw [Int.toNat_natCast, Int.toNat_natCast]; exact h3⟩

theorem rchI_iff {ok : Bool} {s : Sts} {a b : Int} : rchI ok s a b = true ↔ ok = true ∧ ∃ x y : Nat, a = (x : Int) ∧ b = (y : Int) ∧ x < (progPts s).length ∧ y < (progPts s).length ∧ RchP (nextN (progPts s)) (progPts s).length x y := by
  unfold rchI
  rw [Bool.and_eq_true]
  unfold hasB rchAB
  simp only [decide_eq_true_eq]
  cases ok
  · simp only [pointsB]
    constructor
    · rintro ⟨h, _⟩
      simp at h
      omega
    · rintro ⟨h, _⟩
      cases h
  · simp only [pointsB, if_true]
    constructor
    · rintro ⟨h, hd⟩
      exact ⟨trivial, a.toNat, b.toNat, by omega, by omega, by omega, by omega, hd⟩
    · rintro ⟨_, x, y, rfl, rfl, h1, h2, h3⟩
      exact ⟨by omega, by rw [Int.toNat_natCast, Int.toNat_natCast]; exact h3⟩

theorem bool_false {b : Bool} (h : ¬ b = true) : b = false := by
  cases b
  · rfl
  · exact absurd rfl h

theorem loop_facts {ts : List Int} {s : Sts} {a : Int} {l : List Int} (h : AnsLp (validB ts s) s a l) (hne : l ≠ []) :
    validB ts s = true ∧ ∃ i j : Nat, l = rangeI (i : Int) (j : Int) ∧ (i : Int) ≤ a ∧ a ≤ j ∧ LoopP (nextN (progPts s)) i j (progPts s).length := by
  cases hv : validB ts s
  · rw [hv] at h
    exact absurd h.1 hne
  · rw [hv] at h
    have e := h.1
    unfold loopI at e
    rw [if_pos rfl] at e
    cases hi : inner a s 0 with
    | none =>
      rw [hi] at e
      exact absurd e hne
    | some z =>
      rw [hi] at e
      obtain ⟨i, j, rfl, h1, h2, hL⟩ := loop_of hi
      exact ⟨rfl, i, j, e, h1, h2, hL⟩

theorem loop_at {ts : List Int} {s : Sts} {a : Int} {l : List Int} (h : AnsLp (validB ts s) s a l) (hne : l ≠ []) : decide (a ∈ l) = true := by
  obtain ⟨hv, i, j, rfl, h1, h2, hL⟩ := loop_facts h hne
  exact decide_eq_true (mem_rangeI.mpr ⟨h1, h2⟩)

theorem loop_head {ts : List Int} {s : Sts} {a z y : Int} {l : List Int} (h : AnsLp (validB ts s) s a l) (hz : l[0]? = some z) (hy : y ∈ l) : domI (validB ts s) s z y = true := by
  obtain ⟨hv, i, j, rfl, h1, h2, hL⟩ := loop_facts h (by intro e; rw [e] at hz; cases hz)
  rw [mem_rangeI] at hy
  rw [rangeI_get (by have := hL.lt; omega)] at hz
  injection hz with hz
  obtain ⟨p, rfl⟩ : ∃ p : Nat, y = (p : Int) := ⟨y.toNat, by omega⟩
  have hlen := hL.len
  exact domI_iff.mpr ⟨hv, i, p, by omega, rfl, by have := hL.lt; omega, by omega, hL.dom (by omega) (by omega)⟩

theorem loop_from {ts : List Int} {s : Sts} {a y : Int} {l l2 : List Int} (h : AnsLp (validB ts s) s a l) (h2 : AnsPathsFrom (validB ts s) s a l2) (hy : y ∈ l) : decide (y ∈ l2) = true := by
  obtain ⟨hv, i, j, rfl, h1, h3, hL⟩ := loop_facts h (by intro e; rw [e] at hy; cases hy)
  rw [mem_rangeI] at hy
  obtain ⟨p, rfl⟩ : ∃ p : Nat, y = (p : Int) := ⟨y.toNat, by omega⟩
  obtain ⟨u, rfl⟩ : ∃ u : Nat, a = (u : Int) := ⟨a.toNat, by omega⟩
  have hlen := hL.len
  rcases h2 with ⟨_, _, _, hp⟩ | ⟨hn, _⟩
  · refine decide_eq_true ((isPathsB_mem hp _).mpr ⟨p, rfl, ?_⟩)
    rw [Int.toNat_natCast]
    exact loop_reach (at_ := (u : Int)) hL (by omega) (by omega) (by omega) (by omega)
  · exact absurd ⟨hv, by omega, by omega⟩ hn

set_option maxRecDepth 100000 in
set_option maxHeartbeats 2000000 in
theorem walk (n0 c0 : Nat) (A0 : Option Addr) (W : World) (hB : ByteV W W.heap.size n0 A0 c0) (hTab : TabAt 0 Lib.deBruijn64tab W) (hg : 0 < W.heap.size) :
    Calls Tryz.prog 7 #[.slice A0 n0 c0] W fun e w' => e = .returned (.bool true) ∧ Below W.heap.size W w' := by
  have hnc := hB.1
  have hcm := hB.2.1
  unfold maxLen at hcm
  by_cases hn : 1048576 < n0
  · go_enter Tryz.func7, Tryz.ntmps7
    go_wp2_with fail
    go_ret
    exact ⟨rfl, Below.refl _ _⟩
  have e1 : decide (1048576 < (n0 : Int)) = false := decide_eq_false (by omega)
  have HD := Lib.hid (drawLoopOf_any n0 c0 A0 W hB)
  clear hB
  go_enter Tryz.func7, Tryz.ntmps7
  go_wp2_with fail
  refine HD.out.mono ?_
  rintro E w1 ⟨ts, s, At, As, ct, cs, a, rfl, hr1, ht1, hs1, hq, hb1⟩
  have h1s := hb1.size
  obtain ⟨n, hn⟩ : ∃ n, ts.length = n := ⟨_, rfl⟩
  obtain ⟨m, hm⟩ : ∃ m, s.len = m := ⟨_, rfl⟩
  rw [hn, hm]
  have hn9 : n ≤ 1000 := by omega
  have HN := Lib.hid hn
  have HM := Lib.hid hm
  have HSZ := Lib.hid hs1
  have hba := (Below.refl w1.heap.size w1).alloc (Nat.le_refl _) (.cells #[.slice At n ct, .slice As m cs] 26)
  have h2n := heap_alloc_new w1 (.cells #[.slice At n ct, .slice As m cs] 26)
  have h2z : w1.heap.size + 1 ≤ (w1.alloc (.cells #[.slice At n ct, .slice As m cs] 26)).heap.size := Nat.le_of_eq (by simp)
  obtain ⟨w2, hw2⟩ : ∃ w2, w1.alloc (.cells #[.slice At n ct, .slice As m cs] 26) = w2 := ⟨_, rfl⟩
  have T2 := Lib.hid (hr1.1.below hba (Nat.le_trans (Nat.le_refl _) hba.size))
  have R2 := Lib.hid (hr1.2.below hba (Nat.le_trans (Nat.le_refl _) hba.size))
  have B2 := Lib.hid (hb1.trans (hba.mono h1s))
  rw [hw2] at T2 R2 B2 h2n h2z
  have P2 := Lib.hid h2n
  clear hn hm hba hr1 ht1 hs1 hb1 h2n HD
  obtain ⟨PB, hPB⟩ : ∃ PB, w1.heap.size = PB := ⟨_, rfl⟩
  rw [hPB] at P2 h2z h1s
  have hPW : W.heap.size ≤ PB := h1s
  have hP2 : PB < w2.heap.size := h2z
  have HC := implLoopOf_any ts s At As ct cs a w2 T2.out R2.out
  rw [HN.out, HM.out] at HC
  replace HC := Lib.hid HC
  have p0 : w2.cell? ⟨PB, 0, none⟩ = some (.slice At n ct) := (cell_of_block P2.out 0).trans rfl
  have p1 : w2.cell? ⟨PB, 1, none⟩ = some (.slice As m cs) := (cell_of_block P2.out 1).trans rfl
  go_upto_region 4 with (fail)
  clear hw2 hPB
  go_wp2_with fail
  refine HC.out.mono ?_
  rintro E w3 ⟨v3, l3, rfl, hrow3, hans3, hb3⟩
  obtain ⟨q3, hl3⟩ : ∃ q, l3.length = q := ⟨_, rfl⟩
  obtain ⟨A3, c3, hv3, hle3, hmx3⟩ := rowI_formN hrow3 hl3
  have hq3 : q3 ≤ 64 := by rw [← hl3]; exact hans3.length
  have HL3 := Lib.hid hl3
  have HA3 := Lib.hid hans3
  clear hl3 hans3
  subst hv3
  unfold maxLen at hmx3
  have G3 := Lib.hid hrow3.intsV
  have hz3 := hb3.size
  have T3 := Lib.hid (T2.out.below hb3 hz3)
  have R3 := Lib.hid (R2.out.below hb3 hz3)
  have P3 := Lib.hid ((hb3.block PB (by omega)).trans P2.out)
  have B3 := Lib.hid (B2.out.trans (hb3.mono (by omega)))
  have hP3 : PB < w3.heap.size := by omega
  clear hrow3 hb3 HC p0 p1
  have HC := specLoopOf_any ts s At As ct cs a w3 (by have := HSZ.out; omega) T3.out R3.out
  rw [HN.out, HM.out] at HC
  replace HC := Lib.hid HC
  have p0 : w3.cell? ⟨PB, 0, none⟩ = some (.slice At n ct) := (cell_of_block P3.out 0).trans rfl
  have p1 : w3.cell? ⟨PB, 1, none⟩ = some (.slice As m cs) := (cell_of_block P3.out 1).trans rfl
  by_cases hq0 : q3 = 0
  · have hq1 : ((q3 : Int) == 0) = true := by simp [hq0]
    have hq2 : decide ((q3 : Int) = 0) = true := decide_eq_true (by omega)
    have HQ1 := Lib.hid hq1
    have HQ2 := Lib.hid hq2
    clear hq0 hq1 hq2
    go_wp2_with fail
    refine HC.out.mono ?_
    rintro E w4 ⟨v4, l4, rfl, hrow4, hans4, hb4⟩
    rw [hans4.unique HA3.out] at hrow4
    clear hans4
    obtain ⟨A4, c4, hv4, hle4, hmx4⟩ := rowI_formN hrow4 HL3.out
    subst hv4
    unfold maxLen at hmx4
    have G4 := Lib.hid hrow4.intsV
    have hz4 := hb4.size
    have T4 := Lib.hid (T3.out.below hb4 hz4)
    have R4 := Lib.hid (R3.out.below hb4 hz4)
    have P4 := Lib.hid ((hb4.block PB (by omega)).trans P3.out)
    have B4 := Lib.hid (B3.out.trans (hb4.mono (by omega)))
    have hP4 : PB < w4.heap.size := by omega
    have G3 := Lib.hid (G3.out.below hb4 hz4)
    clear hrow4 hb4 HC p0 p1
    have HBC := bcInts_any l3 l3 A3 A4 c3 c4 w4 G3.out G4.out
    rw [HL3.out, decide_eq_true rfl] at HBC
    replace HBC := Lib.hid HBC
    go_wp2_with fail
    refine HBC.out.mono ?_
    rintro E w5 ⟨rfl, hb5⟩
    have hz5 := hb5.size
    have T5 := Lib.hid (T4.out.below hb5 hz5)
    have R5 := Lib.hid (R4.out.below hb5 hz5)
    have P5 := Lib.hid ((hb5.block PB (by omega)).trans P4.out)
    have B5 := Lib.hid (B4.out.trans (hb5.mono (by omega)))
    have hP5 : PB < w5.heap.size := by omega
    have G3 := Lib.hid (G3.out.below hb5 hz5)
    clear hb5 HBC
    have hq1 := HQ1.out
    have hq2 := HQ2.out
    have HC := specLoopOf_any ts s At As ct cs a w5 (by have := HSZ.out; omega) T5.out R5.out
    rw [HN.out, HM.out] at HC
    replace HC := Lib.hid HC
    have p0 : w5.cell? ⟨PB, 0, none⟩ = some (.slice At n ct) := (cell_of_block P5.out 0).trans rfl
    have p1 : w5.cell? ⟨PB, 1, none⟩ = some (.slice As m cs) := (cell_of_block P5.out 1).trans rfl
    go_wp2_with fail
    refine HC.out.mono ?_
    rintro E w6 ⟨v6, l6, rfl, hrow6, hans6, hb6⟩
    rw [hans6.unique HA3.out] at hrow6
    clear hans6
    obtain ⟨A6, c6, hv6, hle6, hmx6⟩ := rowI_formN hrow6 HL3.out
    subst hv6
    unfold maxLen at hmx6
    have G6 := Lib.hid hrow6.intsV
    have hz6 := hb6.size
    have T6 := Lib.hid (T5.out.below hb6 hz6)
    have R6 := Lib.hid (R5.out.below hb6 hz6)
    have P6 := Lib.hid ((hb6.block PB (by omega)).trans P5.out)
    have B6 := Lib.hid (B5.out.trans (hb6.mono (by omega)))
    have hP6 : PB < w6.heap.size := by omega
    have G3 := Lib.hid (G3.out.below hb6 hz6)
    clear hrow6 hb6 HC p0 p1
    have HBC := bcInts_any l3 l3 A3 A6 c3 c6 w6 G3.out G6.out
    rw [HL3.out, decide_eq_true rfl] at HBC
    replace HBC := Lib.hid HBC
    go_wp2_with fail
    refine HBC.out.mono ?_
    rintro E w7 ⟨rfl, hb7⟩
    have hz7 := hb7.size
    have T7 := Lib.hid (T6.out.below hb7 hz7)
    have R7 := Lib.hid (R6.out.below hb7 hz7)
    have P7 := Lib.hid ((hb7.block PB (by omega)).trans P6.out)
    have B7 := Lib.hid (B6.out.trans (hb7.mono (by omega)))
    have hP7 : PB < w7.heap.size := by omega
    clear hb7 HBC
    have B9 := Lib.hid B7.out
    go_wp2_with fail
    go_ret
    exact ⟨rfl, B9.out⟩
  have hq1 : ((q3 : Int) == 0) = false := by simp; omega
  have hq2 : decide ((q3 : Int) = 0) = false := decide_eq_false (by omega)
  go_wp2_with fail
  refine HC.out.mono ?_
  rintro E w4 ⟨v4, l4, rfl, hrow4, hans4, hb4⟩
  rw [hans4.unique HA3.out] at hrow4
  clear hans4
  obtain ⟨A4, c4, hv4, hle4, hmx4⟩ := rowI_formN hrow4 HL3.out
  subst hv4
  unfold maxLen at hmx4
  have G4 := Lib.hid hrow4.intsV
  have hz4 := hb4.size
  have T4 := Lib.hid (T3.out.below hb4 hz4)
  have R4 := Lib.hid (R3.out.below hb4 hz4)
  have P4 := Lib.hid ((hb4.block PB (by omega)).trans P3.out)
  have B4 := Lib.hid (B3.out.trans (hb4.mono (by omega)))
  have hP4 : PB < w4.heap.size := by omega
  have G3 := Lib.hid (G3.out.below hb4 hz4)
  clear hrow4 hb4 HC p0 p1
  have HBC := bcInts_any l3 l3 A3 A4 c3 c4 w4 G3.out G4.out
  rw [HL3.out, decide_eq_true rfl] at HBC
  replace HBC := Lib.hid HBC
  go_wp2_with fail
  refine HBC.out.mono ?_
  rintro E w5 ⟨rfl, hb5⟩
  have hz5 := hb5.size
  have T5 := Lib.hid (T4.out.below hb5 hz5)
  have R5 := Lib.hid (R4.out.below hb5 hz5)
  have P5 := Lib.hid ((hb5.block PB (by omega)).trans P4.out)
  have B5 := Lib.hid (B4.out.trans (hb5.mono (by omega)))
  have hP5 : PB < w5.heap.size := by omega
  have G3 := Lib.hid (G3.out.below hb5 hz5)
  clear hb5 HBC
  have HC := implPathsFrom_any ts s At As ct cs a w5 T5.out R5.out (tab_below hTab hg B5.out) (by have := B5.out.size; omega)
  rw [HN.out, HM.out] at HC
  replace HC := Lib.hid HC
  have p0 : w5.cell? ⟨PB, 0, none⟩ = some (.slice At n ct) := (cell_of_block P5.out 0).trans rfl
  have p1 : w5.cell? ⟨PB, 1, none⟩ = some (.slice As m cs) := (cell_of_block P5.out 1).trans rfl
  go_wp2_with fail
  refine HC.out.mono ?_
  rintro E w6 ⟨v6, l6, rfl, hrow6, hans6, hb6⟩
  obtain ⟨q6, hl6⟩ : ∃ q, l6.length = q := ⟨_, rfl⟩
  obtain ⟨A6, c6, hv6, hle6, hmx6⟩ := rowI_formN hrow6 hl6
  have hq6 : q6 ≤ 64 := by rw [← hl6]; exact hans6.length
  have HL6 := Lib.hid hl6
  have HA6 := Lib.hid hans6
  clear hl6 hans6
  subst hv6
  unfold maxLen at hmx6
  have G6 := Lib.hid hrow6.intsV
  have hz6 := hb6.size
  have T6 := Lib.hid (T5.out.below hb6 hz6)
  have R6 := Lib.hid (R5.out.below hb6 hz6)
  have P6 := Lib.hid ((hb6.block PB (by omega)).trans P5.out)
  have B6 := Lib.hid (B5.out.trans (hb6.mono (by omega)))
  have hP6 : PB < w6.heap.size := by omega
  have G3 := Lib.hid (G3.out.below hb6 hz6)
  clear hrow6 hb6 HC p0 p1
  have HNE : Hid (l3 ≠ []) := by
    intro e
    have := HL3.out
    rw [e] at this
    exact hq0 this.symm
  go_wp2_with fail
  go_loopw [7] (fun i wr => ∃ k : Nat, k ≤ q3 ∧ i = .int .i64 k ∧ Below w6.heap.size w6 wr) (fun i _ => q3 - (intOf i).toNat)
  case atStart => exact ⟨0, Nat.zero_le _, rfl, Below.refl _ _⟩
  case round =>
    obtain ⟨k, hk, rfl, hb⟩ := hrel
    have hbs := hb
    have G3s := G3
    have hzr := hb.size
    have Tr := Lib.hid (T6.out.below hb hzr)
    have Rr := Lib.hid (R6.out.below hb hzr)
    have Pr := Lib.hid ((hb.block PB (by omega)).trans P6.out)
    have Br := Lib.hid (B6.out.trans (hb.mono (by omega)))
    have hPr : PB < wr.heap.size := by omega
    have G3 := Lib.hid (G3.out.below hb hzr)
    have G6 := Lib.hid (G6.out.below hb hzr)
    by_cases hlt : k < q3
    · have hdk : decide ((k : Int) < (q3 : Int)) = true := decide_eq_true (by omega)
      have f1 : IntKind.i64.wrap ((k : Int) + 1) = (k : Int) + 1 := IntWalk.i64_in _ (by omega)
      obtain ⟨bl, y, hbA, -, hbl, hy, hcell⟩ := G3s.out.elem (k := k) (by rw [HL3.out]; exact hlt)
      subst hbA
      have hcr : wr.cell? (bl.add k) = some (.int .i64 y) := (hbs.cell (by rw [block_add]; exact hbl)).trans hcell
      have h03 : 0 < q3 := by omega
      have h04 : decide ((0 : Int) < (q3 : Int)) = true := decide_eq_true (by omega)
      obtain ⟨bl2, z, hbA2, -, -, hz, hcell2⟩ := G3s.out.elem (k := 0) (by rw [HL3.out]; omega)
      injection hbA2 with hbA2
      subst hbA2
      have e0 : bl.add 0 = bl := rfl
      rw [e0] at hcell2
      have hcr2 : wr.cell? bl = some (.int .i64 z) := (hbs.cell hbl).trans hcell2
      have hzl : bl.block < wr.heap.size := by omega
      have HZB := Lib.hid (loop_head HA3.out hz (List.mem_of_getElem? hy))
      have HFB := Lib.hid (loop_from HA3.out HA6.out (List.mem_of_getElem? hy))
      clear hz hcell hcell2 hy e0
      have HDI : Hid (∀ w', Below wr.heap.size wr w' → Calls Tryz.prog 12 #[.agg #[.slice At n ct, .slice As m cs], .int .i64 z, .int .i64 y] w' fun E w'' => E = .returned (.bool true) ∧ Below w'.heap.size w' w'') := fun w' hb => by
        have h := implDominates_any ts s At As ct cs z y w' (Tr.out.below hb hb.size) (Rr.out.below hb hb.size) (tab_below hTab hg (Br.out.trans (hb.mono (by have := Br.out.size; omega)))) (by have := Br.out.size; have := hb.size; omega)
        rw [HN.out, HM.out, HZB.out] at h
        exact h
      have HBI : Hid (∀ w', Below wr.heap.size wr w' → Calls Tryz.prog 21 #[.slice A6 q6 c6, .int .i64 y] w' fun e w'' => e = .returned (.bool true) ∧ Below w'.heap.size w' w'') := fun w' hb => by
        have h := bcIn_any l6 y A6 c6 w' (G6.out.below hb hb.size)
        rw [HL6.out, HFB.out] at h
        exact h
      have p0 : wr.cell? ⟨PB, 0, none⟩ = some (.slice At n ct) := (cell_of_block Pr.out 0).trans rfl
      have p1 : wr.cell? ⟨PB, 1, none⟩ = some (.slice As m cs) := (cell_of_block Pr.out 1).trans rfl
      have HS : Hid (∀ w', Below wr.heap.size wr w' → (Below wr.heap.size wr w' ∧ w'.cell? ⟨PB, 0, none⟩ = some (.slice At n ct) ∧ w'.cell? ⟨PB, 1, none⟩ = some (.slice As m cs) ∧ w'.cell? (bl.add k) = some (.int .i64 y) ∧ w'.cell? bl = some (.int .i64 z))) := fun w' hb => ⟨hb, (hb.cell (by have := Br.out.size; omega)).trans p0, (hb.cell (by have := Br.out.size; omega)).trans p1, (hb.cell (by rw [block_add]; omega)).trans hcr, (hb.cell (by omega)).trans hcr2⟩
      go_upto_region 11 with (fail)
      go_region_held3 (fun w' => Below wr.heap.size wr w' ∧ w'.cell? ⟨PB, 0, none⟩ = some (.slice At n ct) ∧ w'.cell? ⟨PB, 1, none⟩ = some (.slice As m cs) ∧ w'.cell? (bl.add k) = some (.int .i64 y) ∧ w'.cell? bl = some (.int .i64 z))
        (first | with_reducible exact HS.out _ ((Below.refl wr.heap.size wr).drew) | with_reducible exact HS.out _ (Below.refl wr.heap.size wr) | with_reducible exact HS.out _ ((And.left ‹Below wr.heap.size wr _ ∧ _›).trans (hbn.mono (And.left ‹Below wr.heap.size wr _ ∧ _›).size)) | fail)
        (first
          | (go_at_call 21; (with_reducible refine (HBI.out _ (And.left ‹Below wr.heap.size wr _ ∧ _›)).mono ?_); rintro E w' ⟨rfl, hbn⟩)
          | (go_at_call 12; (with_reducible refine (HDI.out _ (And.left ‹Below wr.heap.size wr _ ∧ _›)).mono ?_); rintro E w' ⟨rfl, hbn⟩)
          | fail)
      all_goals
        have hbl9 := And.left ‹Below wr.heap.size wr _ ∧ _›
        have B9 := hb.trans (hbl9.mono hzr)
        go_wp2_with fail
        go_roundw
        case rel => exact ⟨k + 1, by omega, by go_num, B9⟩
        case measure => simp [intOf]; omega
    · have hk' : k = q3 := by omega
      have hkq : decide ((k : Int) < (q3 : Int)) = false := decide_eq_false (by omega)
      have HB8 := bcIn_any l3 a A3 c3 wr G3.out
      rw [HL3.out, loop_at HA3.out HNE.out] at HB8
      replace HB8 := Lib.hid HB8
      go_wp2_with fail
      refine HB8.out.mono ?_
      rintro E w9 ⟨rfl, hb9⟩
      have hz9 := hb9.size
      have T9 := Lib.hid (Tr.out.below hb9 hz9)
      have R9 := Lib.hid (Rr.out.below hb9 hz9)
      have P9 := Lib.hid ((hb9.block PB (by omega)).trans Pr.out)
      have B9 := Lib.hid (Br.out.trans (hb9.mono (by omega)))
      have hP9 : PB < w9.heap.size := by omega
      clear hb9 HB8
      have B7 := Lib.hid B9.out
      go_wp2_with fail
      go_ret
      exact ⟨rfl, B7.out⟩

theorem cellsByte : Tryz.prog.cellsOf 5 = 1 := by kernel_rfl

theorem read_bytes {H : Type} {enc : TypeId × Value → H} {W : World} {spare : Nat → Bool} {held : Bool} {fuel : Nat} {v : Value} {x : DataW H × List MemPlace} (h : DataW.trod enc Tryz.prog W 0 spare held fuel 22 [v] = some x) :
    ∃ (n : Nat) (A : Option Addr) (c : Nat), v = .slice A n c ∧ ByteV W W.heap.size n A c := by
  rcases DataW.trod_slice Tryz.underlying22 h with ⟨hcs, _⟩ | ⟨a, len, cap, elems, rest, n, _, hcs, _, _, hl, hm, hlen, hel, _⟩
  · injection hcs with hcs _
    exact ⟨0, none, 0, hcs, by simp, by simp [maxLen], fun h => absurd h (by simp)⟩
  · injection hcs with hcs _
    have hex : ∀ i, i < len → ∃ z : Int, W.cell? (a.add i) = some (.int .u8 z) ∧ 0 ≤ z ∧ z ≤ 255 := by
      intro i hi
      have h1 := hel i hi
      rw [cellsByte, Nat.mul_one, List.getElem?_eq_getElem (by omega)] at h1
      obtain ⟨cs', hc, ht⟩ := Option.bind_eq_some_iff.1 h1
      obtain ⟨_, _, hat⟩ := World.cells?_some hc
      obtain ⟨z, rfl, _, hwf⟩ := DataW.trod_int Tryz.underlying5 ht
      have hz : 0 ≤ z ∧ z ≤ 255 := by simpa [Lit.wf, IntKind.min, IntKind.max, IntKind.signed, IntKind.bits] using hwf
      exact ⟨z, by simpa [Addr.add] using hat 0 (by omega), hz.1, hz.2⟩
    refine ⟨len, some a, cap, hcs, hl, hm, fun h0 => ⟨a, rfl, ?_, hex⟩⟩
    obtain ⟨z, hz, _⟩ := hex 0 h0
    have := World.block_lt_of_cell? W _ hz
    rwa [block_add] at this

theorem own : ownKnob Tryz.prog.godebug = none := by kernel_rfl
theorem laidOut : laidOutB Tryz.prog = true := by kernel_rfl

set_option maxRecDepth 100000 in
theorem lifted (os : Os) (started : os.Started) (H : Type) (enc : TypeId × Value → H) :
    ReturnsInHanded {} Tryz.checked os 7 .any (fun w args => (Rows.fnLoopOfSpec.pre enc Tryz.prog Tryz.f7 [] false w args ∧ laidMetH Tryz.prog listed w) ∧ sizedMet enc Tryz.prog Tryz.f7 (OpenSpec.ofChange Rows.fnLoopOfSpec) false w args)
      (Rows.fnLoopOfSpec.post enc Tryz.prog Tryz.f7 false true false false) := by
  refine returnsInHanded_of_change_and (C := Tryz.checked) (X := fun w _ => laidMetH Tryz.prog listed w) (fun _ _ _ hh h => h.of_heap hh) own started (by kernel_rfl) Tryz.func7
    (ChangeSpec.witness_shaped (enc := enc) (C := Tryz.checked) (os := os) (X := fun w _ => laidMetH Tryz.prog listed w) false (World.doorLaid Tryz.prog 400 os) #[.slice none 0 0] 8 rfl (World.shaped_of_RefB (by kernel_rfl) (by kernel_rfl)) (by kernel_rfl) (by kernel_rfl) (by kernel_rfl) (door_met os _)) ?_
  intro W base args ds gs before hval0 hW _ _ hL _
  have hval : ∀ (j : Nat) t v, Tryz.f7.params[j]? = some t → args[j]? = some v → Value.okWide Tryz.prog W .any base t v := hval0
  have hW' := hW
  obtain ⟨p, q, hA0, hV, rfl, hfz, hnd⟩ := hW
  have hA : DataW.TrodAll enc Tryz.prog W 0 (fun _ => true) true Tryz.f7.params.toList args.toList ds p := hA0
  rw [Tryz.params7] at hA hval
  obtain ⟨v0, vs0, d0, ds0, p0, q0, hargs, rfl, rfl, h0, r0⟩ := trodAll_cons hA
  obtain ⟨rfl, rfl, rfl⟩ := trodAll_nil r0
  obtain rfl : args = #[v0] := by cases args; simp_all
  obtain ⟨rfl, rfl⟩ := trodVars_none hV
  have k0 := h0
  have lt0 : ∀ x ∈ p0, x.block < W.heap.size := by obtain ⟨m, hm⟩ := k0; exact DataW.trod_lt m _ _ _ hm
  obtain ⟨a0, len0, cap0, rfl⟩ := okWide_slice Tryz.underlying22 (hval 0 22 v0 rfl rfl)
  obtain ⟨fu0, hf0⟩ := h0
  obtain ⟨nb0, At0, ct0, hv0, hT0⟩ := read_bytes hf0
  injection hv0 with hv0 hv0' hv0''
  subst hv0 hv0' hv0''
  obtain ⟨hTab, hTabLt⟩ := tab_of_laid hL
  clear hA0 hval0
  simp only [List.append_nil] at hW'
  refine (walk _ _ _ W hT0 hTab hTabLt).mono fun e W' ⟨he, bel⟩ => ?_
  subst he
  exact ⟨_, rfl, _, _, _, [], _, [], hW', trodAll_mk1 (shut_bool Tryz.underlying4 _), (trodAll_cons_mk (Below.trod laidOut (by kernel_rfl) (of_decide_eq_true (by kernel_rfl)) k0 bel lt0) trodAll_mk0), rfl, bel.frame _, fun h => by cases h⟩

theorem over : Rows.fnLoopOfRow.holds Tryz.pinned (OpenSpec.ofChange Rows.fnLoopOfSpec) :=
  OpenClaim.holds_of_wide 7 Tryz.f7 rfl rfl rfl rfl rfl rfl rfl ⟨rfl, rfl, rfl, rfl, rfl⟩ rfl rfl rfl rfl rfl (by kernel_rfl) Tryz.func7 (by kernel_rfl)
    (of_decide_eq_true (by kernel_rfl)) (by unfold Func.isWrapper; first | (rw [if_pos (by decide +kernel)]; kernel_rfl) | (rw [if_neg (by decide +kernel)]; exact ⟨rfl, rfl⟩))
    (fun os started H enc _ => lifted os started H enc)

set_option maxRecDepth 100000 in
theorem proved : Rows.FnLoopOfCardSaid :=
  Claim7.holds_tied_plain_at .later [] [.data] true (true, "70c01f2bfcc204bc4de513bb5534ac2ab9a5304d11017bf1ae724bf30b413d5a") false
    over (fun _ h => by cases h) (by kernel_rfl) (fun _ h => by cases h) fnLoopOf_row_tie rfl ⟨rfl, rfl⟩ (by kernel_rfl) rfl
    (fun f fn hf hfn => by
      obtain rfl : f = 7 := Option.some.inj ((show Tryz.prog.funcNamed "loop.example/borrowcheck/laws.FnLoopOf" = some 7 by kernel_rfl).symm.trans hf) |>.symm
      obtain rfl : fn = Tryz.f7 := (Option.some.inj (Tryz.func7.symm.trans hfn)).symm
      exact ⟨by kernel_rfl, fun j t ht => by
        rw [Tryz.params7] at ht
        have hm : t ∈ [22] := by simpa using Array.mem_of_getElem? ht
        have hall : ([22].all fun u => !Tryz.prog.wantsStandIn u) = true := by kernel_rfl
        exact (show Tryz.prog.wantsStandIn t = false by simpa using List.all_eq_true.1 hall t hm)⟩)
    (by kernel_rfl)
#print axioms proved
end Go.Proofs.YtfkhgdbnjcdlmaaGreatDoor.fnLoopOf
