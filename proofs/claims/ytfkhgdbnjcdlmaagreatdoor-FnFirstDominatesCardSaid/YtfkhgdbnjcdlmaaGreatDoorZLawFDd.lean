/-
  Whatever the bytes: the first point dominates each point, the last one is always reached, each point is among those that dominate it, and these are the model's. Conditions: none.
-/
import Derived.Test.YtfkhgdbnjcdlmaaGreatDoorZDrDom
import Derived.Test.YtfkhgdbnjcdlmaaGreatDoorZBcG
import Derived.Test.YtfkhgdbnjcdlmaaGreatDoorZImD
import Derived.Test.YtfkhgdbnjcdlmaaGreatDoorZDofS
import Derived.Test.YtfkhgdbnjcdlmaaGreatDoorZPoX
import Derived.Test.YtfkhgdbnjcdlmaaGreatDoorZTab
import Derived.Test.YtfkhgdbnjcdlmaaGreatDoorRows
import Derived.Test.YtfkhgdbnjcdlmaaGreatDoorCards
import Derived.Test.YtfkhgdbnjcdlmaaGreatDoorTie
import Derived.LaidMore
import Derived.SevenTiedAt
import Derived.WalkKit
import Derived.ProofKit
import Derived.OpenShut
import Derived.Lib.SmallJoins
import Derived.Deep.RegionHeld3
import Derived.Deep.DeepCutAuto
import Derived.Deep.QuietTactic
namespace Go.Proofs.YtfkhgdbnjcdlmaaGreatDoor.fnFirstDominates
open Go.ChangeShapes Go.WideShapes Go.ChangeAt Go.RowKit Go.Deep Go.Joins
set_option linter.unusedVariables false

theorem rowI_formN {w : World} {B n : Nat} {v : Value} {xs : List Int} (h : RowI w B v xs) (hn : xs.length = n) : ∃ A c, v = .slice A n c ∧ n ≤ c ∧ c ≤ maxLen := by
  obtain ⟨A, c, h1, h2, h3, _⟩ := own_form h.own
  subst hn
  exact ⟨A, c, h1, h2, h3⟩

theorem rowI_form {w : World} {B : Nat} {v : Value} {xs : List Int} (h : RowI w B v xs) : ∃ A c, v = .slice A xs.length c ∧ xs.length ≤ c ∧ c ≤ maxLen := rowI_formN h rfl

theorem domI_iff {ok : Bool} {s : Sts} {a b : Int} : domI ok s a b = true ↔ ok = true ∧ ∃ x y : Nat, a = (x : Int) ∧ b = (y : Int) ∧ x < (progPts s).length ∧ y < (progPts s).length ∧ DomP (nextN (progPts s)) x y := by
  unfold domI
  rw [Bool.and_eq_true]
  unfold hasB domAB
  simp only [decide_eq_true_eq]
  cases ok
  · simp only [pointsB]
    constructor
    · rintro ⟨h, _⟩
      simp at h
      omega
    · rintro ⟨h, _⟩
      cases h
  · simp only [pointsB, if_true]
    constructor
    · rintro ⟨h, hd⟩
      exact ⟨trivial, a.toNat, b.toNat, by omega, by omega, by omega, by omega, hd⟩
    · rintro ⟨_, x, y, rfl, rfl, h1, h2, h3⟩
      exact ⟨by omega, by rw [Int.toNat_natCast, Int.toNat_natCast]; exact h3⟩

theorem rchI_iff {ok : Bool} {s : Sts} {a b : Int} : rchI ok s a b = true ↔ ok = true ∧ ∃ x y : Nat, a = (x : Int) ∧ b = (y : Int) ∧ x < (progPts s).length ∧ y < (progPts s).length ∧ RchP (nextN (progPts s)) (progPts s).length x y := by
  unfold rchI
  rw [Bool.and_eq_true]
  unfold hasB rchAB
  simp only [decide_eq_true_eq]
  cases ok
  · simp only [pointsB]
    constructor
    · rintro ⟨h, _⟩
      simp at h
      omega
    · rintro ⟨h, _⟩
      cases h
  · simp only [pointsB, if_true]
    constructor
    · rintro ⟨h, hd⟩
      exact ⟨trivial, a.toNat, b.toNat, by omega, by omega, by omega, by omega, hd⟩
    · rintro ⟨_, x, y, rfl, rfl, h1, h2, h3⟩
      exact ⟨by omega, by rw [Int.toNat_natCast, Int.toNat_natCast]; exact h3⟩

theorem bool_false {b : Bool} (h : ¬ b = true) : b = false := by
  cases b
  · rfl
  · exact absurd rfl h

theorem points_len9 (ok : Bool) (s : Sts) (h : s.size ≤ 40000) : (pointsB ok s).length ≤ 100000 := by
  unfold pointsB
  split
  · rw [progPts_len]
    have := s.npts_le
    omega
  · simp

theorem first_dom {ts : List Int} {s : Sts} {a : Int} (hv : 0 ≤ a) (h : a < ((pointsB (validB ts s) s).length : Int)) : domI (validB ts s) s 0 a = true := by
  cases hk : validB ts s
  · rw [hk] at h
    simp [pointsB] at h
    omega
  · rw [hk] at h
    simp only [pointsB, if_true] at h
    exact domI_iff.mpr ⟨rfl, 0, a.toNat, rfl, by omega, by omega, by omega, DomP.zero _ _⟩

theorem last_rch {ts : List Int} {s : Sts} {a b : Int} (hv : 0 ≤ a) (h : a < ((pointsB (validB ts s) s).length : Int)) (hb : b = ((pointsB (validB ts s) s).length : Int) - 1) : rchI (validB ts s) s a b = true := by
  subst hb
  cases hk : validB ts s
  · rw [hk] at h
    simp [pointsB] at h
    omega
  · rw [hk] at h
    simp only [pointsB, if_true] at h ⊢
    exact rchI_iff.mpr ⟨rfl, a.toNat, (progPts s).length - 1, by omega, by omega, by omega, by omega, RchP.end_ _ _ _⟩

theorem mem_self {ts : List Int} {s : Sts} {a : Int} {l : List Int} (hl : AnsDm (validB ts s) s a l) (hv : 0 ≤ a) (h : a < ((pointsB (validB ts s) s).length : Int)) : decide (a ∈ l) = true ∧ decide ((0 : Int) ∈ l) = true := by
  have hk : validB ts s = true := by
    cases hk : validB ts s
    · rw [hk] at h
      simp [pointsB] at h
      omega
    · rfl
  rw [hk] at h
  simp only [pointsB, if_true] at h
  exact ⟨decide_eq_true ((hl.mem a).mpr ⟨hk, hv, h, a.toNat, by omega, DomP.self _ _⟩), decide_eq_true ((hl.mem 0).mpr ⟨hk, hv, h, 0, rfl, DomP.zero _ _⟩)⟩

set_option maxRecDepth 100000 in
set_option maxHeartbeats 2000000 in
theorem walk (n0 c0 : Nat) (A0 : Option Addr) (W : World) (hB : ByteV W W.heap.size n0 A0 c0) (hTab : TabAt 0 Lib.deBruijn64tab W) (hg : 0 < W.heap.size) :
    Calls Tryz.prog 9 #[.slice A0 n0 c0] W fun e w' => e = .returned (.bool true) ∧ Below W.heap.size W w' := by
  have hnc := hB.1
  have hcm := hB.2.1
  unfold maxLen at hcm
  by_cases hn : 1048576 < n0
  · go_enter Tryz.func9, Tryz.ntmps9
    go_wp2_with fail
    go_ret
    exact ⟨rfl, Below.refl _ _⟩
  have e1 : decide (1048576 < (n0 : Int)) = false := decide_eq_false (by omega)
  have HD := Lib.hid (drawDominatorsOf_any n0 c0 A0 W hB)
  clear hB
  go_enter Tryz.func9, Tryz.ntmps9
  go_wp2_with fail
  refine HD.out.mono ?_
  rintro E w1 ⟨ts, s, At, As, ct, cs, a, rfl, hr1, ht1, hs1, hq, hb1⟩
  have h1s := hb1.size
  obtain ⟨n, hn⟩ : ∃ n, ts.length = n := ⟨_, rfl⟩
  obtain ⟨m, hm⟩ : ∃ m, s.len = m := ⟨_, rfl⟩
  rw [hn, hm]
  have hn9 : n ≤ 1000 := by omega
  have HN := Lib.hid hn
  have HM := Lib.hid hm
  have HSZ := Lib.hid hs1
  have hba := (Below.refl w1.heap.size w1).alloc (Nat.le_refl _) (.cells #[.slice At n ct, .slice As m cs] 26)
  have h2n := heap_alloc_new w1 (.cells #[.slice At n ct, .slice As m cs] 26)
  have h2z : w1.heap.size + 1 ≤ (w1.alloc (.cells #[.slice At n ct, .slice As m cs] 26)).heap.size := Nat.le_of_eq (by simp)
  obtain ⟨w2, hw2⟩ : ∃ w2, w1.alloc (.cells #[.slice At n ct, .slice As m cs] 26) = w2 := ⟨_, rfl⟩
  have T2 := Lib.hid (hr1.1.below hba (Nat.le_trans (Nat.le_refl _) hba.size))
  have R2 := Lib.hid (hr1.2.below hba (Nat.le_trans (Nat.le_refl _) hba.size))
  have B2 := Lib.hid (hb1.trans (hba.mono h1s))
  rw [hw2] at T2 R2 B2 h2n h2z
  have P2 := Lib.hid h2n
  clear hn hm hba hr1 ht1 hs1 hb1 h2n HD
  obtain ⟨PB, hPB⟩ : ∃ PB, w1.heap.size = PB := ⟨_, rfl⟩
  rw [hPB] at P2 h2z h1s
  have hPW : W.heap.size ≤ PB := h1s
  have hP2 : PB < w2.heap.size := h2z
  obtain ⟨ns, hns⟩ : ∃ ns, pointsB (validB ts s) s = ns := ⟨_, rfl⟩
  obtain ⟨L, hL⟩ : ∃ L, ns.length = L := ⟨_, rfl⟩
  have hL9 : L ≤ 100000 := by rw [← hL, ← hns]; exact points_len9 _ _ HSZ.out
  have HNS := Lib.hid hns
  have HLL := Lib.hid hL
  clear hns hL
  have HC := implDominatorsOf_any ts s At As ct cs a w2 T2.out R2.out (tab_below hTab hg B2.out) (by have := B2.out.size; omega)
  rw [HN.out, HM.out] at HC
  replace HC := Lib.hid HC
  have p0 : w2.cell? ⟨PB, 0, none⟩ = some (.slice At n ct) := (cell_of_block P2.out 0).trans rfl
  have p1 : w2.cell? ⟨PB, 1, none⟩ = some (.slice As m cs) := (cell_of_block P2.out 1).trans rfl
  go_upto_region 4 with (fail)
  clear hw2 hPB
  go_wp2_with fail
  refine HC.out.mono ?_
  rintro E w3 ⟨v3, l3, rfl, hrow3, hans3, hb3⟩
  obtain ⟨q3, hl3⟩ : ∃ q, l3.length = q := ⟨_, rfl⟩
  obtain ⟨A3, c3, hv3, hle3, hmx3⟩ := rowI_formN hrow3 hl3
  have hq3 : q3 ≤ 64 := by rw [← hl3]; exact hans3.length
  have HL3 := Lib.hid hl3
  have HA3 := Lib.hid hans3
  clear hl3 hans3
  subst hv3
  unfold maxLen at hmx3
  have G3 := Lib.hid hrow3.intsV
  have hz3 := hb3.size
  have T3 := Lib.hid (T2.out.below hb3 hz3)
  have R3 := Lib.hid (R2.out.below hb3 hz3)
  have P3 := Lib.hid ((hb3.block PB (by omega)).trans P2.out)
  have B3 := Lib.hid (B2.out.trans (hb3.mono (by omega)))
  have hP3 : PB < w3.heap.size := by omega
  clear hrow3 hb3 HC p0 p1
  have HC := implPointsOf_any ts s At As ct cs w3 T3.out R3.out
  rw [HN.out, HM.out, HNS.out] at HC
  replace HC := Lib.hid HC
  have p0 : w3.cell? ⟨PB, 0, none⟩ = some (.slice At n ct) := (cell_of_block P3.out 0).trans rfl
  have p1 : w3.cell? ⟨PB, 1, none⟩ = some (.slice As m cs) := (cell_of_block P3.out 1).trans rfl
  go_wp2_with fail
  refine HC.out.mono ?_
  rintro E w4 ⟨v4, us4, rfl, hrow4, hb4⟩
  have V4 := Lib.hid hrow4.reads
  have hz4 := hb4.size
  have T4 := Lib.hid (T3.out.below hb4 hz4)
  have R4 := Lib.hid (R3.out.below hb4 hz4)
  have P4 := Lib.hid ((hb4.block PB (by omega)).trans P3.out)
  have B4 := Lib.hid (B3.out.trans (hb4.mono (by omega)))
  have hP4 : PB < w4.heap.size := by omega
  have G3 := Lib.hid (G3.out.below hb4 hz4)
  obtain ⟨A4, c4, hv4, hc4, hmx4, -⟩ := id V4.out
  rw [HLL.out] at hv4 hc4
  subst hv4
  unfold maxLen at hmx4
  clear hrow4 hb4 HC p0 p1
  have HC := specDominatorsOf_any ts s At As ct cs a w4 (by have := HSZ.out; omega) T4.out R4.out
  rw [HN.out, HM.out] at HC
  replace HC := Lib.hid HC
  have p0 : w4.cell? ⟨PB, 0, none⟩ = some (.slice At n ct) := (cell_of_block P4.out 0).trans rfl
  have p1 : w4.cell? ⟨PB, 1, none⟩ = some (.slice As m cs) := (cell_of_block P4.out 1).trans rfl
  by_cases ha0 : a < 0 ∨ (L : Int) ≤ a
  · have hd1 : decide (a < 0) = true ∨ (decide (a < 0) = false ∧ decide ((L : Int) ≤ a) = true) := by
      by_cases h : a < 0
      · exact .inl (decide_eq_true h)
      · exact .inr ⟨decide_eq_false h, decide_eq_true (by omega)⟩
    go_wp2_with fail
    refine HC.out.mono ?_
    rintro E w5 ⟨v5, l5, rfl, hrow5, hans5, hb5⟩
    rw [hans5.unique HA3.out] at hrow5
    clear hans5
    obtain ⟨A5, c5, hv5, hle5, hmx5⟩ := rowI_formN hrow5 HL3.out
    subst hv5
    unfold maxLen at hmx5
    have G5 := Lib.hid hrow5.intsV
    have hz5 := hb5.size
    have T5 := Lib.hid (T4.out.below hb5 hz5)
    have R5 := Lib.hid (R4.out.below hb5 hz5)
    have P5 := Lib.hid ((hb5.block PB (by omega)).trans P4.out)
    have B5 := Lib.hid (B4.out.trans (hb5.mono (by omega)))
    have hP5 : PB < w5.heap.size := by omega
    have G3 := Lib.hid (G3.out.below hb5 hz5)
    clear hrow5 hb5 HC p0 p1
    have HBC := bcInts_any l3 l3 A3 A5 c3 c5 w5 G3.out G5.out
    rw [HL3.out, decide_eq_true rfl] at HBC
    replace HBC := Lib.hid HBC
    go_wp2_with fail
    refine HBC.out.mono ?_
    rintro E w6 ⟨rfl, hb6⟩
    have hz6 := hb6.size
    have T6 := Lib.hid (T5.out.below hb6 hz6)
    have R6 := Lib.hid (R5.out.below hb6 hz6)
    have P6 := Lib.hid ((hb6.block PB (by omega)).trans P5.out)
    have B6 := Lib.hid (B5.out.trans (hb6.mono (by omega)))
    have hP6 : PB < w6.heap.size := by omega
    have G3 := Lib.hid (G3.out.below hb6 hz6)
    clear hb6 HBC
    have HC := specDominatorsOf_any ts s At As ct cs a w6 (by have := HSZ.out; omega) T6.out R6.out
    rw [HN.out, HM.out] at HC
    replace HC := Lib.hid HC
    have p0 : w6.cell? ⟨PB, 0, none⟩ = some (.slice At n ct) := (cell_of_block P6.out 0).trans rfl
    have p1 : w6.cell? ⟨PB, 1, none⟩ = some (.slice As m cs) := (cell_of_block P6.out 1).trans rfl
    rcases hd1 with hd1 | ⟨hd1, hd2⟩
    · clear ha0
      go_wp2_with fail
      refine HC.out.mono ?_
      rintro E w7 ⟨v7, l7, rfl, hrow7, hans7, hb7⟩
      rw [hans7.unique HA3.out] at hrow7
      clear hans7
      obtain ⟨A7, c7, hv7, hle7, hmx7⟩ := rowI_formN hrow7 HL3.out
      subst hv7
      unfold maxLen at hmx7
      have G7 := Lib.hid hrow7.intsV
      have hz7 := hb7.size
      have T7 := Lib.hid (T6.out.below hb7 hz7)
      have R7 := Lib.hid (R6.out.below hb7 hz7)
      have P7 := Lib.hid ((hb7.block PB (by omega)).trans P6.out)
      have B7 := Lib.hid (B6.out.trans (hb7.mono (by omega)))
      have hP7 : PB < w7.heap.size := by omega
      have G3 := Lib.hid (G3.out.below hb7 hz7)
      clear hrow7 hb7 HC p0 p1
      have HBC := bcInts_any l3 l3 A3 A7 c3 c7 w7 G3.out G7.out
      rw [HL3.out, decide_eq_true rfl] at HBC
      replace HBC := Lib.hid HBC
      go_wp2_with fail
      refine HBC.out.mono ?_
      rintro E w8 ⟨rfl, hb8⟩
      have hz8 := hb8.size
      have T8 := Lib.hid (T7.out.below hb8 hz8)
      have R8 := Lib.hid (R7.out.below hb8 hz8)
      have P8 := Lib.hid ((hb8.block PB (by omega)).trans P7.out)
      have B8 := Lib.hid (B7.out.trans (hb8.mono (by omega)))
      have hP8 : PB < w8.heap.size := by omega
      clear hb8 HBC
      have B9 := Lib.hid B8.out
      go_wp2_with fail
      go_ret
      exact ⟨rfl, B9.out⟩
    · clear ha0
      go_wp2_with fail
      refine HC.out.mono ?_
      rintro E w7 ⟨v7, l7, rfl, hrow7, hans7, hb7⟩
      rw [hans7.unique HA3.out] at hrow7
      clear hans7
      obtain ⟨A7, c7, hv7, hle7, hmx7⟩ := rowI_formN hrow7 HL3.out
      subst hv7
      unfold maxLen at hmx7
      have G7 := Lib.hid hrow7.intsV
      have hz7 := hb7.size
      have T7 := Lib.hid (T6.out.below hb7 hz7)
      have R7 := Lib.hid (R6.out.below hb7 hz7)
      have P7 := Lib.hid ((hb7.block PB (by omega)).trans P6.out)
      have B7 := Lib.hid (B6.out.trans (hb7.mono (by omega)))
      have hP7 : PB < w7.heap.size := by omega
      have G3 := Lib.hid (G3.out.below hb7 hz7)
      clear hrow7 hb7 HC p0 p1
      have HBC := bcInts_any l3 l3 A3 A7 c3 c7 w7 G3.out G7.out
      rw [HL3.out, decide_eq_true rfl] at HBC
      replace HBC := Lib.hid HBC
      go_wp2_with fail
      refine HBC.out.mono ?_
      rintro E w8 ⟨rfl, hb8⟩
      have hz8 := hb8.size
      have T8 := Lib.hid (T7.out.below hb8 hz8)
      have R8 := Lib.hid (R7.out.below hb8 hz8)
      have P8 := Lib.hid ((hb8.block PB (by omega)).trans P7.out)
      have B8 := Lib.hid (B7.out.trans (hb8.mono (by omega)))
      have hP8 : PB < w8.heap.size := by omega
      clear hb8 HBC
      have B9 := Lib.hid B8.out
      go_wp2_with fail
      go_ret
      exact ⟨rfl, B9.out⟩
  have hd1 : decide (a < 0) = false := decide_eq_false (by omega)
  have hd2 : decide ((L : Int) ≤ a) = false := decide_eq_false (by omega)
  have HIN : Hid (0 ≤ a ∧ a < ((pointsB (validB ts s) s).length : Int)) := by
    refine ⟨by omega, ?_⟩
    rw [HNS.out, HLL.out]
    omega
  have HF1 := Lib.hid (first_dom HIN.out.1 HIN.out.2)
  have HF2 : Hid (rchI (validB ts s) s a ((L : Int) - 1) = true) := last_rch HIN.out.1 HIN.out.2 (by rw [HNS.out, HLL.out])
  have HF3 := Lib.hid (mem_self HA3.out HIN.out.1 HIN.out.2)
  clear ha0
  go_wp2_with fail
  refine HC.out.mono ?_
  rintro E w5 ⟨v5, l5, rfl, hrow5, hans5, hb5⟩
  rw [hans5.unique HA3.out] at hrow5
  clear hans5
  obtain ⟨A5, c5, hv5, hle5, hmx5⟩ := rowI_formN hrow5 HL3.out
  subst hv5
  unfold maxLen at hmx5
  have G5 := Lib.hid hrow5.intsV
  have hz5 := hb5.size
  have T5 := Lib.hid (T4.out.below hb5 hz5)
  have R5 := Lib.hid (R4.out.below hb5 hz5)
  have P5 := Lib.hid ((hb5.block PB (by omega)).trans P4.out)
  have B5 := Lib.hid (B4.out.trans (hb5.mono (by omega)))
  have hP5 : PB < w5.heap.size := by omega
  have G3 := Lib.hid (G3.out.below hb5 hz5)
  clear hrow5 hb5 HC p0 p1
  have HBC := bcInts_any l3 l3 A3 A5 c3 c5 w5 G3.out G5.out
  rw [HL3.out, decide_eq_true rfl] at HBC
  replace HBC := Lib.hid HBC
  go_wp2_with fail
  refine HBC.out.mono ?_
  rintro E w6 ⟨rfl, hb6⟩
  have hz6 := hb6.size
  have T6 := Lib.hid (T5.out.below hb6 hz6)
  have R6 := Lib.hid (R5.out.below hb6 hz6)
  have P6 := Lib.hid ((hb6.block PB (by omega)).trans P5.out)
  have B6 := Lib.hid (B5.out.trans (hb6.mono (by omega)))
  have hP6 : PB < w6.heap.size := by omega
  have G3 := Lib.hid (G3.out.below hb6 hz6)
  clear hb6 HBC
  have HC := implDominates_any ts s At As ct cs 0 a w6 T6.out R6.out (tab_below hTab hg B6.out) (by have := B6.out.size; omega)
  rw [HN.out, HM.out, HF1.out] at HC
  replace HC := Lib.hid HC
  have p0 : w6.cell? ⟨PB, 0, none⟩ = some (.slice At n ct) := (cell_of_block P6.out 0).trans rfl
  have p1 : w6.cell? ⟨PB, 1, none⟩ = some (.slice As m cs) := (cell_of_block P6.out 1).trans rfl
  go_wp2_with fail
  refine HC.out.mono ?_
  rintro E w7 ⟨rfl, hb7⟩
  have hz7 := hb7.size
  have T7 := Lib.hid (T6.out.below hb7 hz7)
  have R7 := Lib.hid (R6.out.below hb7 hz7)
  have P7 := Lib.hid ((hb7.block PB (by omega)).trans P6.out)
  have B7 := Lib.hid (B6.out.trans (hb7.mono (by omega)))
  have hP7 : PB < w7.heap.size := by omega
  have G3 := Lib.hid (G3.out.below hb7 hz7)
  clear hb7 HC p0 p1
  have HC := implAlwaysReaches_any ts s At As ct cs a ((L : Int) - 1) w7 T7.out R7.out (tab_below hTab hg B7.out) (by have := B7.out.size; omega)
  rw [HN.out, HM.out, HF2.out] at HC
  replace HC := Lib.hid HC
  have p0 : w7.cell? ⟨PB, 0, none⟩ = some (.slice At n ct) := (cell_of_block P7.out 0).trans rfl
  have p1 : w7.cell? ⟨PB, 1, none⟩ = some (.slice As m cs) := (cell_of_block P7.out 1).trans rfl
  go_wp2_with fail
  refine HC.out.mono ?_
  rintro E w8 ⟨rfl, hb8⟩
  have hz8 := hb8.size
  have T8 := Lib.hid (T7.out.below hb8 hz8)
  have R8 := Lib.hid (R7.out.below hb8 hz8)
  have P8 := Lib.hid ((hb8.block PB (by omega)).trans P7.out)
  have B8 := Lib.hid (B7.out.trans (hb8.mono (by omega)))
  have hP8 : PB < w8.heap.size := by omega
  have G3 := Lib.hid (G3.out.below hb8 hz8)
  clear hb8 HC p0 p1
  have HB8 := bcIn_any l3 a A3 c3 w8 G3.out
  rw [HL3.out, HF3.out.1] at HB8
  replace HB8 := Lib.hid HB8
  go_wp2_with fail
  refine HB8.out.mono ?_
  rintro E w9 ⟨rfl, hb9⟩
  have hz9 := hb9.size
  have T9 := Lib.hid (T8.out.below hb9 hz9)
  have R9 := Lib.hid (R8.out.below hb9 hz9)
  have P9 := Lib.hid ((hb9.block PB (by omega)).trans P8.out)
  have B9 := Lib.hid (B8.out.trans (hb9.mono (by omega)))
  have hP9 : PB < w9.heap.size := by omega
  have G3 := Lib.hid (G3.out.below hb9 hz9)
  clear hb9 HB8
  have HB9 := bcIn_any l3 0 A3 c3 w9 G3.out
  rw [HL3.out, HF3.out.2] at HB9
  replace HB9 := Lib.hid HB9
  go_wp2_with fail
  refine HB9.out.mono ?_
  rintro E w10 ⟨rfl, hb10⟩
  have hz10 := hb10.size
  have T10 := Lib.hid (T9.out.below hb10 hz10)
  have R10 := Lib.hid (R9.out.below hb10 hz10)
  have P10 := Lib.hid ((hb10.block PB (by omega)).trans P9.out)
  have B10 := Lib.hid (B9.out.trans (hb10.mono (by omega)))
  have hP10 : PB < w10.heap.size := by omega
  have G3 := Lib.hid (G3.out.below hb10 hz10)
  clear hb10 HB9
  have B11 := Lib.hid B10.out
  go_wp2_with fail
  go_ret
  exact ⟨rfl, B11.out⟩

theorem cellsByte : Tryz.prog.cellsOf 5 = 1 := by kernel_rfl

theorem read_bytes {H : Type} {enc : TypeId × Value → H} {W : World} {spare : Nat → Bool} {held : Bool} {fuel : Nat} {v : Value} {x : DataW H × List MemPlace} (h : DataW.trod enc Tryz.prog W 0 spare held fuel 22 [v] = some x) :
    ∃ (n : Nat) (A : Option Addr) (c : Nat), v = .slice A n c ∧ ByteV W W.heap.size n A c := by
  rcases DataW.trod_slice Tryz.underlying22 h with ⟨hcs, _⟩ | ⟨a, len, cap, elems, rest, n, _, hcs, _, _, hl, hm, hlen, hel, _⟩
  · injection hcs with hcs _
    exact ⟨0, none, 0, hcs, by simp, by simp [maxLen], fun h => absurd h (by simp)⟩
  · injection hcs with hcs _
    have hex : ∀ i, i < len → ∃ z : Int, W.cell? (a.add i) = some (.int .u8 z) ∧ 0 ≤ z ∧ z ≤ 255 := by
      intro i hi
      have h1 := hel i hi
      rw [cellsByte, Nat.mul_one, List.getElem?_eq_getElem (by omega)] at h1
      obtain ⟨cs', hc, ht⟩ := Option.bind_eq_some_iff.1 h1
      obtain ⟨_, _, hat⟩ := World.cells?_some hc
      obtain ⟨z, rfl, _, hwf⟩ := DataW.trod_int Tryz.underlying5 ht
      have hz : 0 ≤ z ∧ z ≤ 255 := by simpa [Lit.wf, IntKind.min, IntKind.max, IntKind.signed, IntKind.bits] using hwf
      exact ⟨z, by simpa [Addr.add] using hat 0 (by omega), hz.1, hz.2⟩
    refine ⟨len, some a, cap, hcs, hl, hm, fun h0 => ⟨a, rfl, ?_, hex⟩⟩
    obtain ⟨z, hz, _⟩ := hex 0 h0
    have := World.block_lt_of_cell? W _ hz
    rwa [block_add] at this

theorem own : ownKnob Tryz.prog.godebug = none := by kernel_rfl
theorem laidOut : laidOutB Tryz.prog = true := by kernel_rfl

set_option maxRecDepth 100000 in
theorem lifted (os : Os) (started : os.Started) (H : Type) (enc : TypeId × Value → H) :
    ReturnsInHanded {} Tryz.checked os 9 .any (fun w args => (Rows.fnFirstDominatesSpec.pre enc Tryz.prog Tryz.f9 [] false w args ∧ laidMetH Tryz.prog listed w) ∧ sizedMet enc Tryz.prog Tryz.f9 (OpenSpec.ofChange Rows.fnFirstDominatesSpec) false w args)
      (Rows.fnFirstDominatesSpec.post enc Tryz.prog Tryz.f9 false true false false) := by
  refine returnsInHanded_of_change_and (C := Tryz.checked) (X := fun w _ => laidMetH Tryz.prog listed w) (fun _ _ _ hh h => h.of_heap hh) own started (by kernel_rfl) Tryz.func9
    (ChangeSpec.witness_shaped (enc := enc) (C := Tryz.checked) (os := os) (X := fun w _ => laidMetH Tryz.prog listed w) false (World.doorLaid Tryz.prog 400 os) #[.slice none 0 0] 8 rfl (World.shaped_of_RefB (by kernel_rfl) (by kernel_rfl)) (by kernel_rfl) (by kernel_rfl) (by kernel_rfl) (door_met os _)) ?_
  intro W base args ds gs before hval0 hW _ _ hL _
  have hval : ∀ (j : Nat) t v, Tryz.f9.params[j]? = some t → args[j]? = some v → Value.okWide Tryz.prog W .any base t v := hval0
  have hW' := hW
  obtain ⟨p, q, hA0, hV, rfl, hfz, hnd⟩ := hW
  have hA : DataW.TrodAll enc Tryz.prog W 0 (fun _ => true) true Tryz.f9.params.toList args.toList ds p := hA0
  rw [Tryz.params9] at hA hval
  obtain ⟨v0, vs0, d0, ds0, p0, q0, hargs, rfl, rfl, h0, r0⟩ := trodAll_cons hA
  obtain ⟨rfl, rfl, rfl⟩ := trodAll_nil r0
  obtain rfl : args = #[v0] := by cases args; simp_all
  obtain ⟨rfl, rfl⟩ := trodVars_none hV
  have k0 := h0
  have lt0 : ∀ x ∈ p0, x.block < W.heap.size := by obtain ⟨m, hm⟩ := k0; exact DataW.trod_lt m _ _ _ hm
  obtain ⟨a0, len0, cap0, rfl⟩ := okWide_slice Tryz.underlying22 (hval 0 22 v0 rfl rfl)
  obtain ⟨fu0, hf0⟩ := h0
  obtain ⟨nb0, At0, ct0, hv0, hT0⟩ := read_bytes hf0
  injection hv0 with hv0 hv0' hv0''
  subst hv0 hv0' hv0''
  obtain ⟨hTab, hTabLt⟩ := tab_of_laid hL
  clear hA0 hval0
  simp only [List.append_nil] at hW'
  refine (walk _ _ _ W hT0 hTab hTabLt).mono fun e W' ⟨he, bel⟩ => ?_
  subst he
  exact ⟨_, rfl, _, _, _, [], _, [], hW', trodAll_mk1 (shut_bool Tryz.underlying4 _), (trodAll_cons_mk (Below.trod laidOut (by kernel_rfl) (of_decide_eq_true (by kernel_rfl)) k0 bel lt0) trodAll_mk0), rfl, bel.frame _, fun h => by cases h⟩

theorem over : Rows.fnFirstDominatesRow.holds Tryz.pinned (OpenSpec.ofChange Rows.fnFirstDominatesSpec) :=
  OpenClaim.holds_of_wide 9 Tryz.f9 rfl rfl rfl rfl rfl rfl rfl ⟨rfl, rfl, rfl, rfl, rfl⟩ rfl rfl rfl rfl rfl (by kernel_rfl) Tryz.func9 (by kernel_rfl)
    (of_decide_eq_true (by kernel_rfl)) (by unfold Func.isWrapper; first | (rw [if_pos (by decide +kernel)]; kernel_rfl) | (rw [if_neg (by decide +kernel)]; exact ⟨rfl, rfl⟩))
    (fun os started H enc _ => lifted os started H enc)

set_option maxRecDepth 100000 in
theorem proved : Rows.FnFirstDominatesCardSaid :=
  Claim7.holds_tied_plain_at .later [] [.data] true (true, "70c01f2bfcc204bc4de513bb5534ac2ab9a5304d11017bf1ae724bf30b413d5a") false
    over (fun _ h => by cases h) (by kernel_rfl) (fun _ h => by cases h) fnFirstDominates_row_tie rfl ⟨rfl, rfl⟩ (by kernel_rfl) rfl
    (fun f fn hf hfn => by
      obtain rfl : f = 9 := Option.some.inj ((show Tryz.prog.funcNamed "loop.example/borrowcheck/laws.FnFirstDominates" = some 9 by kernel_rfl).symm.trans hf) |>.symm
      obtain rfl : fn = Tryz.f9 := (Option.some.inj (Tryz.func9.symm.trans hfn)).symm
      exact ⟨by kernel_rfl, fun j t ht => by
        rw [Tryz.params9] at ht
        have hm : t ∈ [22] := by simpa using Array.mem_of_getElem? ht
        have hall : ([22].all fun u => !Tryz.prog.wantsStandIn u) = true := by kernel_rfl
        exact (show Tryz.prog.wantsStandIn t = false by simpa using List.all_eq_true.1 hall t hm)⟩)
    (by kernel_rfl)
#print axioms proved
end Go.Proofs.YtfkhgdbnjcdlmaaGreatDoor.fnFirstDominates
