/-
  Whatever the bytes: a shortest way goes by next points from its first point to its last one, it is there where paths are, and ShortWay answers as its model does. Conditions: none.
-/
import Derived.Test.YtlddoookojjleaaGreatDoorZDrShw
import Derived.Test.YtlddoookojjleaaGreatDoorZBcG
import Derived.Test.YtlddoookojjleaaGreatDoorZShwI
import Derived.Test.YtlddoookojjleaaGreatDoorZShwS
import Derived.Test.YtlddoookojjleaaGreatDoorZPathF
import Derived.Test.YtlddoookojjleaaGreatDoorZPoX
import Derived.Test.YtlddoookojjleaaGreatDoorZTab
import Derived.Test.YtlddoookojjleaaGreatDoorRows
import Derived.Test.YtlddoookojjleaaGreatDoorCards
import Derived.Test.YtlddoookojjleaaGreatDoorTie
import Derived.LaidMore
import Derived.SevenTiedAt
import Derived.WalkKit
import Derived.ProofKit
import Derived.OpenShut
import Derived.Lib.SmallJoins
import Derived.Deep.RegionHeld3
import Derived.Deep.DeepCutAuto
import Derived.Deep.QuietTactic
namespace Go.Proofs.YtlddoookojjleaaGreatDoor.fnShortWay
open Go.ChangeShapes Go.WideShapes Go.ChangeAt Go.RowKit Go.Deep Go.Joins
set_option linter.unusedVariables false

theorem rowI_formN {w : World} {B n : Nat} {v : Value} {xs : List Int} (h : RowI w B v xs) (hn : xs.length = n) : ∃ A c, v = .slice A n c ∧ n ≤ c ∧ c ≤ maxLen := by
  obtain ⟨A, c, h1, h2, h3, _⟩ := own_form h.own
  subst hn
  exact ⟨A, c, h1, h2, h3⟩

theorem rowI_form {w : World} {B : Nat} {v : Value} {xs : List Int} (h : RowI w B v xs) : ∃ A c, v = .slice A xs.length c ∧ xs.length ≤ c ∧ c ≤ maxLen := rowI_formN h rfl

theorem points_len9 (ok : Bool) (s : Sts) (h : s.size ≤ 40000) : (pointsB ok s).length ≤ 100000 := by
  unfold pointsB
  split
  · rw [progPts_len]
    have := s.npts_le
    omega
  · simp

theorem sw_iff {ts : List Int} {s : Sts} {a b : Int} {l lp : List Int} {r : Bool} (h : AnsSW ts s a b l r) (hp : AnsPathsFrom (validB ts s) s a lp) : decide (b ∈ lp) = r := by
  have key : b ∈ lp ↔ SwC ts s a b := by
    rcases hp with ⟨h1, h2, h3, p, rfl, h4⟩ | ⟨h1, rfl⟩
    · have hD := valid_D h1
      have hlt := fun a x hx => nextN_lt hD a x hx
      have h61 := valid_61 h1
      constructor
      · intro hb
        obtain ⟨k, hk, rfl⟩ := List.mem_map.mp hb
        obtain ⟨hk1, hk2⟩ := List.mem_filter.mp hk
        have hr := (h4 k).mp ⟨List.mem_range.mp hk1, hk2⟩
        have hkl : k < (progPts s).length := by
          cases hr with
          | one h => exact hlt _ _ h
          | step _ h => exact hlt _ _ h
        exact ⟨h1, h2, h3, by omega, by omega, by rw [Int.toNat_natCast]; exact (mem_bfsE (nextN_self s _) hlt h61 k).mpr hr⟩
      · intro hc
        obtain ⟨_, _, _, h5, h6, h7⟩ := hc
        have hr := (mem_bfsE (nextN_self s _) hlt h61 b.toNat).mp h7
        have h8 := (h4 b.toNat).mpr hr
        refine List.mem_map.mpr ⟨b.toNat, List.mem_filter.mpr ⟨List.mem_range.mpr h8.1, h8.2⟩, by omega⟩
    · constructor
      · intro hb; cases hb
      · intro hc; exact absurd ⟨hc.1, hc.2.1, hc.2.2.1⟩ h1
  rcases h with ⟨h1, _, rfl⟩ | ⟨h1, _, rfl⟩
  · exact decide_eq_true (key.mpr h1)
  · exact decide_eq_false (fun e => h1 (key.mp e))

theorem intsW_get {W : List Nat} {i : Nat} {x : Int} (h : (intsW W)[i]? = some x) : ∃ y : Nat, W[i]? = some y ∧ x = (y : Int) := by
  unfold intsW at h
  rw [List.getElem?_map] at h
  cases hy : W[i]? with
  | none => rw [hy] at h; cases h
  | some y =>
    rw [hy] at h
    simp only [Option.map_some, Option.some.injEq] at h
    exact ⟨y, rfl, h.symm⟩

theorem sw_step {ts : List Int} {s : Sts} {a b : Int} {l : List Int} (h : AnsSW ts s a b l true) {i : Nat} {x y : Int} (hx : l[i]? = some x) (hy : l[i + 1]? = some y) : ∃ (n : Nat) (d : Nd), x = (n : Int) ∧ (pointsB (validB ts s) s)[n]? = some d ∧ y ∈ d.next := by
  rcases h with ⟨h1, rfl, _⟩ | ⟨_, _, h3⟩
  · obtain ⟨x', hx1, rfl⟩ := intsW_get hx
    obtain ⟨y', hy1, rfl⟩ := intsW_get hy
    have hch := wayR_chain (bfsE_ok (nextN_self s a.toNat)) h1.2.2.2.2.2 i x' y' hx1 hy1
    have hpb : pointsB (validB ts s) s = progPts s := by simp [pointsB, h1.1]
    rw [hpb]
    cases hd : (progPts s)[x']? with
    | none =>
      exfalso
      unfold nextN at hch
      simp [nextP, hd] at hch
    | some d =>
      refine ⟨x', d, rfl, hd, ?_⟩
      rw [← (nextN_ints (valid_D h1.1) hd).1]
      exact List.mem_map.mpr ⟨y', hch, rfl⟩
  · cases h3

theorem sw_ends {ts : List Int} {s : Sts} {a b : Int} {l : List Int} (h : AnsSW ts s a b l true) : 2 ≤ l.length ∧ l.length ≤ (pointsB (validB ts s) s).length + 1 ∧ l[0]? = some a ∧ l[l.length - 1]? = some b := by
  rcases h with ⟨h1, rfl, _⟩ | ⟨_, _, h3⟩
  · have hok := bfsE_ok (nextN_self s a.toNat)
    have hm := h1.2.2.2.2.2
    have h2 := wayR_length hok hm
    have h3 := dstR_pos hok hm
    have h4 := wayE_len (nextN_self s a.toNat) (fun a x hx => nextN_lt (valid_D h1.1) a x hx) hm
    have h5 := wayR_head hok hm
    have h6 := wayR_last hok hm
    have hpb : pointsB (validB ts s) s = progPts s := by simp [pointsB, h1.1]
    rw [hpb, intsW_length]
    refine ⟨by unfold wayE; omega, h4, ?_, ?_⟩
    · unfold intsW wayE
      rw [List.getElem?_map, h5]
      have := h1.2.1
      simp only [Option.map_some, Option.some.injEq]
      omega
    · unfold intsW wayE
      rw [List.getElem?_map, h2, Nat.add_sub_cancel, h6]
      have := h1.2.2.2.1
      simp only [Option.map_some, Option.some.injEq]
      omega
  · cases h3

set_option maxRecDepth 100000 in
set_option maxHeartbeats 2000000 in
theorem walk (n0 c0 : Nat) (A0 : Option Addr) (W : World) (hB : ByteV W W.heap.size n0 A0 c0) (hTab : TabAt 0 Lib.deBruijn64tab W) (hg : 0 < W.heap.size) :
    Calls Tryz.prog 3 #[.slice A0 n0 c0] W fun e w' => e = .returned (.bool true) ∧ Below W.heap.size W w' := by
  have hnc := hB.1
  have hcm := hB.2.1
  unfold maxLen at hcm
  by_cases hn : 1048576 < n0
  · go_enter Tryz.func3, Tryz.ntmps3
    go_wp2_with fail
    go_ret
    exact ⟨rfl, Below.refl _ _⟩
  have e1 : decide (1048576 < (n0 : Int)) = false := decide_eq_false (by omega)
  have HD := Lib.hid (drawShortWay_any n0 c0 A0 W hB)
  clear hB
  go_enter Tryz.func3, Tryz.ntmps3
  go_wp2_with fail
  refine HD.out.mono ?_
  rintro E w1 ⟨ts, s, At, As, ct, cs, a, b, rfl, hr1, ht1, hs1, hq, hb1⟩
  have h1s := hb1.size
  obtain ⟨n, hn⟩ : ∃ n, ts.length = n := ⟨_, rfl⟩
  obtain ⟨m, hm⟩ : ∃ m, s.len = m := ⟨_, rfl⟩
  rw [hn, hm]
  have hn9 : n ≤ 1000 := by omega
  have HN := Lib.hid hn
  have HM := Lib.hid hm
  have HSZ := Lib.hid hs1
  have hba := (Below.refl w1.heap.size w1).alloc (Nat.le_refl _) (.cells #[.slice At n ct, .slice As m cs] 26)
  have h2n := heap_alloc_new w1 (.cells #[.slice At n ct, .slice As m cs] 26)
  have h2z : w1.heap.size + 1 ≤ (w1.alloc (.cells #[.slice At n ct, .slice As m cs] 26)).heap.size := Nat.le_of_eq (by simp)
  obtain ⟨w2, hw2⟩ : ∃ w2, w1.alloc (.cells #[.slice At n ct, .slice As m cs] 26) = w2 := ⟨_, rfl⟩
  have T2 := Lib.hid (hr1.1.below hba (Nat.le_trans (Nat.le_refl _) hba.size))
  have R2 := Lib.hid (hr1.2.below hba (Nat.le_trans (Nat.le_refl _) hba.size))
  have B2 := Lib.hid (hb1.trans (hba.mono h1s))
  rw [hw2] at T2 R2 B2 h2n h2z
  have P2 := Lib.hid h2n
  clear hn hm hba hr1 ht1 hs1 hb1 h2n HD
  obtain ⟨PB, hPB⟩ : ∃ PB, w1.heap.size = PB := ⟨_, rfl⟩
  rw [hPB] at P2 h2z h1s
  have hPW : W.heap.size ≤ PB := h1s
  have hP2 : PB < w2.heap.size := h2z
  obtain ⟨ns, hns⟩ : ∃ ns, pointsB (validB ts s) s = ns := ⟨_, rfl⟩
  obtain ⟨L, hL⟩ : ∃ L, ns.length = L := ⟨_, rfl⟩
  have hL9 : L ≤ 100000 := by rw [← hL, ← hns]; exact points_len9 _ _ HSZ.out
  have HNS := Lib.hid hns
  have HLL := Lib.hid hL
  clear hns hL
  have HC := implShortWay_any ts s At As ct cs a b w2 T2.out R2.out
  rw [HN.out, HM.out] at HC
  replace HC := Lib.hid HC
  have p0 : w2.cell? ⟨PB, 0, none⟩ = some (.slice At n ct) := (cell_of_block P2.out 0).trans rfl
  have p1 : w2.cell? ⟨PB, 1, none⟩ = some (.slice As m cs) := (cell_of_block P2.out 1).trans rfl
  go_upto_region 4 with (fail)
  clear hw2 hPB
  go_wp2_with fail
  refine HC.out.mono ?_
  rintro E w3 ⟨v3, l3, r3, rfl, hrow3, hans3, hb3⟩
  obtain ⟨q3, hl3⟩ : ∃ q, l3.length = q := ⟨_, rfl⟩
  obtain ⟨A3, c3, hv3, hle3, hmx3⟩ := rowI_formN hrow3 hl3
  have hq3 : q3 ≤ 64 := by rw [← hl3]; exact hans3.length
  have HL3 := Lib.hid hl3
  have HA3 := Lib.hid hans3
  clear hl3 hans3
  subst hv3
  unfold maxLen at hmx3
  have G3 := Lib.hid hrow3.intsV
  have hz3 := hb3.size
  have T3 := Lib.hid (T2.out.below hb3 hz3)
  have R3 := Lib.hid (R2.out.below hb3 hz3)
  have P3 := Lib.hid ((hb3.block PB (by omega)).trans P2.out)
  have B3 := Lib.hid (B2.out.trans (hb3.mono (by omega)))
  have hP3 : PB < w3.heap.size := by omega
  clear hrow3 hb3 HC p0 p1
  have HC := specShortWay_any ts s At As ct cs a b w3 (by have := HSZ.out; omega) T3.out R3.out
  rw [HN.out, HM.out] at HC
  replace HC := Lib.hid HC
  have p0 : w3.cell? ⟨PB, 0, none⟩ = some (.slice At n ct) := (cell_of_block P3.out 0).trans rfl
  have p1 : w3.cell? ⟨PB, 1, none⟩ = some (.slice As m cs) := (cell_of_block P3.out 1).trans rfl
  go_wp2_with fail
  refine HC.out.mono ?_
  rintro E w4 ⟨v4, l4, r4, rfl, hrow4, hans4, hb4⟩
  obtain ⟨hl4, hr4⟩ := hans4.unique HA3.out
  rw [hl4] at hrow4
  rw [hr4]
  clear hans4 hl4 hr4
  obtain ⟨A4, c4, hv4, hle4, hmx4⟩ := rowI_formN hrow4 HL3.out
  subst hv4
  unfold maxLen at hmx4
  have G4 := Lib.hid hrow4.intsV
  have hz4 := hb4.size
  have T4 := Lib.hid (T3.out.below hb4 hz4)
  have R4 := Lib.hid (R3.out.below hb4 hz4)
  have P4 := Lib.hid ((hb4.block PB (by omega)).trans P3.out)
  have B4 := Lib.hid (B3.out.trans (hb4.mono (by omega)))
  have hP4 : PB < w4.heap.size := by omega
  have G3 := Lib.hid (G3.out.below hb4 hz4)
  clear hrow4 hb4 HC p0 p1
  cases r3
  · have ebb : (false != false) = false := rfl
    have ebc : (false == false) = true := rfl
    have HBC := bcInts_any l3 l3 A3 A4 c3 c4 w4 G3.out G4.out
    rw [HL3.out, decide_eq_true rfl] at HBC
    replace HBC := Lib.hid HBC
    go_wp2_with fail
    refine HBC.out.mono ?_
    rintro E w5 ⟨rfl, hb5⟩
    have hz5 := hb5.size
    have T5 := Lib.hid (T4.out.below hb5 hz5)
    have R5 := Lib.hid (R4.out.below hb5 hz5)
    have P5 := Lib.hid ((hb5.block PB (by omega)).trans P4.out)
    have B5 := Lib.hid (B4.out.trans (hb5.mono (by omega)))
    have hP5 : PB < w5.heap.size := by omega
    have G3 := Lib.hid (G3.out.below hb5 hz5)
    have G4 := Lib.hid (G4.out.below hb5 hz5)
    clear hb5 HBC
    have HC := implPathsFrom_any ts s At As ct cs a w5 T5.out R5.out (tab_below hTab hg B5.out) (by have := B5.out.size; omega)
    rw [HN.out, HM.out] at HC
    replace HC := Lib.hid HC
    have p0 : w5.cell? ⟨PB, 0, none⟩ = some (.slice At n ct) := (cell_of_block P5.out 0).trans rfl
    have p1 : w5.cell? ⟨PB, 1, none⟩ = some (.slice As m cs) := (cell_of_block P5.out 1).trans rfl
    go_wp2_with fail
    refine HC.out.mono ?_
    rintro E w6 ⟨v6, l6, rfl, hrow6, hans6, hb6⟩
    obtain ⟨q6, hl6⟩ : ∃ q, l6.length = q := ⟨_, rfl⟩
    obtain ⟨A6, c6, hv6, hle6, hmx6⟩ := rowI_formN hrow6 hl6
    have hq6 : q6 ≤ 64 := by rw [← hl6]; exact hans6.length
    have HL6 := Lib.hid hl6
    have HA6 := Lib.hid hans6
    clear hl6 hans6
    subst hv6
    unfold maxLen at hmx6
    have G6 := Lib.hid hrow6.intsV
    have hz6 := hb6.size
    have T6 := Lib.hid (T5.out.below hb6 hz6)
    have R6 := Lib.hid (R5.out.below hb6 hz6)
    have P6 := Lib.hid ((hb6.block PB (by omega)).trans P5.out)
    have B6 := Lib.hid (B5.out.trans (hb6.mono (by omega)))
    have hP6 : PB < w6.heap.size := by omega
    have G3 := Lib.hid (G3.out.below hb6 hz6)
    have G4 := Lib.hid (G4.out.below hb6 hz6)
    clear hrow6 hb6 HC p0 p1
    have HIN := Lib.hid (sw_iff HA3.out HA6.out)
    have HBI := bcIn_any l6 b A6 c6 w6 G6.out
    rw [HL6.out, HIN.out] at HBI
    replace HBI := Lib.hid HBI
    go_wp2_with fail
    refine HBI.out.mono ?_
    rintro E w7 ⟨rfl, hb9⟩
    have hz7 := hb9.size
    have T7 := Lib.hid (T6.out.below hb9 hz7)
    have R7 := Lib.hid (R6.out.below hb9 hz7)
    have P7 := Lib.hid ((hb9.block PB (by omega)).trans P6.out)
    have B7 := Lib.hid (B6.out.trans (hb9.mono (by omega)))
    have hP7 : PB < w7.heap.size := by omega
    have G3 := Lib.hid (G3.out.below hb9 hz7)
    have G4 := Lib.hid (G4.out.below hb9 hz7)
    clear hb9 HBI
    have HBC := bcInts_any l3 l3 A3 A4 c3 c4 w7 G3.out G4.out
    rw [HL3.out, decide_eq_true rfl] at HBC
    replace HBC := Lib.hid HBC
    go_wp2_with fail
    refine HBC.out.mono ?_
    rintro E w8 ⟨rfl, hb8⟩
    have hz8 := hb8.size
    have T8 := Lib.hid (T7.out.below hb8 hz8)
    have R8 := Lib.hid (R7.out.below hb8 hz8)
    have P8 := Lib.hid ((hb8.block PB (by omega)).trans P7.out)
    have B8 := Lib.hid (B7.out.trans (hb8.mono (by omega)))
    have hP8 : PB < w8.heap.size := by omega
    have G3 := Lib.hid (G3.out.below hb8 hz8)
    have G4 := Lib.hid (G4.out.below hb8 hz8)
    clear hb8 HBC
    have HC := implPathsFrom_any ts s At As ct cs a w8 T8.out R8.out (tab_below hTab hg B8.out) (by have := B8.out.size; omega)
    rw [HN.out, HM.out] at HC
    replace HC := Lib.hid HC
    have p0 : w8.cell? ⟨PB, 0, none⟩ = some (.slice At n ct) := (cell_of_block P8.out 0).trans rfl
    have p1 : w8.cell? ⟨PB, 1, none⟩ = some (.slice As m cs) := (cell_of_block P8.out 1).trans rfl
    go_wp2_with fail
    refine HC.out.mono ?_
    rintro E w9 ⟨v9, l9, rfl, hrow9, hans9, hb9⟩
    obtain ⟨q9, hl9⟩ : ∃ q, l9.length = q := ⟨_, rfl⟩
    obtain ⟨A9, c9, hv9, hle9, hmx9⟩ := rowI_formN hrow9 hl9
    have hq9 : q9 ≤ 64 := by rw [← hl9]; exact hans9.length
    have HL9 := Lib.hid hl9
    have HA9 := Lib.hid hans9
    clear hl9 hans9
    subst hv9
    unfold maxLen at hmx9
    have G9 := Lib.hid hrow9.intsV
    have hz9 := hb9.size
    have T9 := Lib.hid (T8.out.below hb9 hz9)
    have R9 := Lib.hid (R8.out.below hb9 hz9)
    have P9 := Lib.hid ((hb9.block PB (by omega)).trans P8.out)
    have B9 := Lib.hid (B8.out.trans (hb9.mono (by omega)))
    have hP9 : PB < w9.heap.size := by omega
    have G3 := Lib.hid (G3.out.below hb9 hz9)
    have G4 := Lib.hid (G4.out.below hb9 hz9)
    clear hrow9 hb9 HC p0 p1
    have HIN := Lib.hid (sw_iff HA3.out HA9.out)
    have HBI := bcIn_any l9 b A9 c9 w9 G9.out
    rw [HL9.out, HIN.out] at HBI
    replace HBI := Lib.hid HBI
    go_wp2_with fail
    refine HBI.out.mono ?_
    rintro E w10 ⟨rfl, hb9⟩
    have hz10 := hb9.size
    have T10 := Lib.hid (T9.out.below hb9 hz10)
    have R10 := Lib.hid (R9.out.below hb9 hz10)
    have P10 := Lib.hid ((hb9.block PB (by omega)).trans P9.out)
    have B10 := Lib.hid (B9.out.trans (hb9.mono (by omega)))
    have hP10 : PB < w10.heap.size := by omega
    have G3 := Lib.hid (G3.out.below hb9 hz10)
    have G4 := Lib.hid (G4.out.below hb9 hz10)
    clear hb9 HBI
    have B11 := Lib.hid B10.out
    go_wp2_with fail
    go_ret
    exact ⟨rfl, B11.out⟩
  have ebb : (true != true) = false := rfl
  have HBC := bcInts_any l3 l3 A3 A4 c3 c4 w4 G3.out G4.out
  rw [HL3.out, decide_eq_true rfl] at HBC
  replace HBC := Lib.hid HBC
  go_wp2_with fail
  refine HBC.out.mono ?_
  rintro E w5 ⟨rfl, hb5⟩
  have hz5 := hb5.size
  have T5 := Lib.hid (T4.out.below hb5 hz5)
  have R5 := Lib.hid (R4.out.below hb5 hz5)
  have P5 := Lib.hid ((hb5.block PB (by omega)).trans P4.out)
  have B5 := Lib.hid (B4.out.trans (hb5.mono (by omega)))
  have hP5 : PB < w5.heap.size := by omega
  have G3 := Lib.hid (G3.out.below hb5 hz5)
  clear hb5 HBC
  have HC := implPathsFrom_any ts s At As ct cs a w5 T5.out R5.out (tab_below hTab hg B5.out) (by have := B5.out.size; omega)
  rw [HN.out, HM.out] at HC
  replace HC := Lib.hid HC
  have p0 : w5.cell? ⟨PB, 0, none⟩ = some (.slice At n ct) := (cell_of_block P5.out 0).trans rfl
  have p1 : w5.cell? ⟨PB, 1, none⟩ = some (.slice As m cs) := (cell_of_block P5.out 1).trans rfl
  go_wp2_with fail
  refine HC.out.mono ?_
  rintro E w6 ⟨v6, l6, rfl, hrow6, hans6, hb6⟩
  obtain ⟨q6, hl6⟩ : ∃ q, l6.length = q := ⟨_, rfl⟩
  obtain ⟨A6, c6, hv6, hle6, hmx6⟩ := rowI_formN hrow6 hl6
  have hq6 : q6 ≤ 64 := by rw [← hl6]; exact hans6.length
  have HL6 := Lib.hid hl6
  have HA6 := Lib.hid hans6
  clear hl6 hans6
  subst hv6
  unfold maxLen at hmx6
  have G6 := Lib.hid hrow6.intsV
  have hz6 := hb6.size
  have T6 := Lib.hid (T5.out.below hb6 hz6)
  have R6 := Lib.hid (R5.out.below hb6 hz6)
  have P6 := Lib.hid ((hb6.block PB (by omega)).trans P5.out)
  have B6 := Lib.hid (B5.out.trans (hb6.mono (by omega)))
  have hP6 : PB < w6.heap.size := by omega
  have G3 := Lib.hid (G3.out.below hb6 hz6)
  clear hrow6 hb6 HC p0 p1
  have HIN := Lib.hid (sw_iff HA3.out HA6.out)
  have HBI := bcIn_any l6 b A6 c6 w6 G6.out
  rw [HL6.out, HIN.out] at HBI
  replace HBI := Lib.hid HBI
  go_wp2_with fail
  refine HBI.out.mono ?_
  rintro E w7 ⟨rfl, hb9⟩
  have hz7 := hb9.size
  have T7 := Lib.hid (T6.out.below hb9 hz7)
  have R7 := Lib.hid (R6.out.below hb9 hz7)
  have P7 := Lib.hid ((hb9.block PB (by omega)).trans P6.out)
  have B7 := Lib.hid (B6.out.trans (hb9.mono (by omega)))
  have hP7 : PB < w7.heap.size := by omega
  have G3 := Lib.hid (G3.out.below hb9 hz7)
  clear hb9 HBI
  have HC := implPointsOf_any ts s At As ct cs w7 T7.out R7.out
  rw [HN.out, HM.out, HNS.out] at HC
  replace HC := Lib.hid HC
  have p0 : w7.cell? ⟨PB, 0, none⟩ = some (.slice At n ct) := (cell_of_block P7.out 0).trans rfl
  have p1 : w7.cell? ⟨PB, 1, none⟩ = some (.slice As m cs) := (cell_of_block P7.out 1).trans rfl
  go_wp2_with fail
  refine HC.out.mono ?_
  rintro E w8 ⟨v8, us8, rfl, hrow8, hb8⟩
  have V8 := Lib.hid hrow8.reads
  have hz8 := hb8.size
  have T8 := Lib.hid (T7.out.below hb8 hz8)
  have R8 := Lib.hid (R7.out.below hb8 hz8)
  have P8 := Lib.hid ((hb8.block PB (by omega)).trans P7.out)
  have B8 := Lib.hid (B7.out.trans (hb8.mono (by omega)))
  have hP8 : PB < w8.heap.size := by omega
  have G3 := Lib.hid (G3.out.below hb8 hz8)
  obtain ⟨A8, c8, hv8, hc8, hmx8, -⟩ := id V8.out
  rw [HLL.out] at hv8 hc8
  subst hv8
  unfold maxLen at hmx8
  clear hrow8 hb8 HC p0 p1
  obtain ⟨hq2, hqL, hl0, hlq⟩ := sw_ends HA3.out
  rw [HL3.out] at hq2 hqL hlq
  rw [HNS.out, HLL.out] at hqL
  have HL0 := Lib.hid hl0
  have HLQ := Lib.hid hlq
  have HQL := Lib.hid hqL
  clear hl0 hlq hqL
  go_wp2_with fail
  go_loopw [11] (fun i wr => ∃ x : Nat, 1 ≤ x ∧ x ≤ q3 ∧ i = .int .i64 x ∧ Below w8.heap.size w8 wr) (fun i _ => q3 - (intOf i).toNat)
  case atStart => exact ⟨1, by omega, by omega, rfl, Below.refl _ _⟩
  case round =>
    obtain ⟨x, hx1, hx, rfl, hb⟩ := hrel
    obtain ⟨M, hxm⟩ : ∃ M, x = M + 1 := ⟨x - 1, by omega⟩
    have f3 : (x : Int) - 1 = (M : Int) := by omega
    have HXM := Lib.hid hxm
    clear hxm
    have hbs := hb
    have G3s := G3
    have hzr := hb.size
    have Tr := Lib.hid (T8.out.below hb hzr)
    have Rr := Lib.hid (R8.out.below hb hzr)
    have Pr := Lib.hid ((hb.block PB (by omega)).trans P8.out)
    have Br := Lib.hid (B8.out.trans (hb.mono (by omega)))
    have hPr : PB < wr.heap.size := by omega
    have G3 := Lib.hid (G3.out.below hb hzr)
    have V8 := Lib.hid (V8.out.below hb)
    by_cases hlt : x < q3
    · have hdk : decide ((x : Int) < (q3 : Int)) = true := decide_eq_true (by omega)
      have f1 : IntKind.i64.wrap ((x : Int) + 1) = (x : Int) + 1 := IntWalk.i64_in _ (by omega)
      have hmq : M < q3 := by omega
      have f7 : IntKind.i64.wrap (M : Int) = (M : Int) := IntWalk.i64_in _ (by omega)
      have f2 : IntKind.i64.wrap ((x : Int) - 1) = (M : Int) := by rw [IntWalk.i64_in _ (by omega)]; omega
      have hdm : decide ((M : Int) < (q3 : Int)) = true := decide_eq_true (by omega)
      obtain ⟨bl, y, hbA, -, hbl, hy, hcell⟩ := G3s.out.elem (k := M) (by rw [HL3.out]; omega)
      subst hbA
      obtain ⟨bl2, y2, hbA2, -, -, hy2, hcell2⟩ := G3s.out.elem (k := x) (by rw [HL3.out]; omega)
      injection hbA2 with hbA2
      subst hbA2
      have hy2' := hy2
      rw [HXM.out] at hy2'
      obtain ⟨nn, d, hyn, hd, hmem⟩ := sw_step HA3.out hy hy2'
      rw [HNS.out] at hd
      subst hyn
      have HMEM : Hid (decide (y2 ∈ d.next) = true) := decide_eq_true hmem
      have hnL : nn < L := by rw [← HLL.out]; exact (List.getElem?_eq_some_iff.mp hd).1
      have dn : decide ((nn : Int) < (L : Int)) = true := decide_eq_true (by omega)
      have hcr : wr.cell? (bl.add M) = some (.int .i64 (nn : Int)) := (hbs.cell (by rw [block_add]; exact hbl)).trans hcell
      have hcr2 : wr.cell? (bl.add x) = some (.int .i64 y2) := (hbs.cell (by rw [block_add]; exact hbl)).trans hcell2
      have hzl : bl.block < wr.heap.size := by omega
      obtain ⟨A1, cc1, e1, -, -, h4⟩ := id V8.out
      injection e1 with e1 e1m e1'
      subst e1 e1'
      obtain ⟨g2, hg0, hgl2, hcc⟩ := h4 (by rw [HLL.out]; omega)
      subst hg0
      obtain ⟨Au, cu, ⟨-, -, -, -, a4⟩, hI⟩ := hcc nn _ hd
      have HCB : Hid (∀ w', Below wr.heap.size wr w' → Calls Tryz.prog 8 #[.slice Au d.next.length cu, .int .i64 y2] w' fun E w'' => E = .returned (.bool true) ∧ Below w'.heap.size w' w'') := fun w' hb => by
        have h := bcIn_any d.next y2 Au cu w' (hI.below hb hb.size)
        rw [HMEM.out] at h
        exact h
      have HS : Hid (∀ w', Below wr.heap.size wr w' → (Below wr.heap.size wr w' ∧ w'.cell? (bl.add M) = some (.int .i64 (nn : Int)) ∧ w'.cell? (bl.add x) = some (.int .i64 y2) ∧ w'.cell? ⟨g2, nn * 5 + 4, none⟩ = some (.slice Au d.next.length cu))) := fun w' hb => ⟨hb, (hb.cell (by rw [block_add]; omega)).trans hcr, (hb.cell (by rw [block_add]; omega)).trans hcr2, (hb.cell (p := ⟨g2, nn * 5 + 4, none⟩) hgl2).trans a4⟩
      clear hcell hcell2 hy hy2 hy2' hd hmem hI hcc h4 e1m
      go_upto_region 12 with (fail)
      go_region_held3 (fun w' => Below wr.heap.size wr w' ∧ w'.cell? (bl.add M) = some (.int .i64 (nn : Int)) ∧ w'.cell? (bl.add x) = some (.int .i64 y2) ∧ w'.cell? ⟨g2, nn * 5 + 4, none⟩ = some (.slice Au d.next.length cu))
        (first | with_reducible exact HS.out _ ((Below.refl wr.heap.size wr).drew) | with_reducible exact HS.out _ (Below.refl wr.heap.size wr) | with_reducible exact HS.out _ ((And.left ‹Below wr.heap.size wr _ ∧ _›).trans (hbn.mono (And.left ‹Below wr.heap.size wr _ ∧ _›).size)) | fail)
        (first | (go_at_call 8; (with_reducible refine (HCB.out _ (And.left ‹Below wr.heap.size wr _ ∧ _›)).mono ?_); rintro E w' ⟨rfl, hbn⟩) | fail)
      all_goals
        have hbl9 := And.left ‹Below wr.heap.size wr _ ∧ _›
        have B9 := hb.trans (hbl9.mono hzr)
        go_wp2_with fail
        go_roundw
        case rel => exact ⟨x + 1, by omega, by omega, by go_num, B9⟩
        case measure => simp [intOf]; omega
    · have hxq : q3 = M + 1 := by have := HXM.out; omega
      have hkq : decide ((x : Int) < (q3 : Int)) = false := decide_eq_false (by omega)
      clear f3
      have f3 : ((q3 : Nat) : Int) - 1 = (M : Int) := by omega
      have hmq2 : M < q3 := by omega
      have f7 : IntKind.i64.wrap (M : Int) = (M : Int) := IntWalk.i64_in _ (by omega)
      have f8 : IntKind.i64.wrap ((L : Int) + 1) = (L : Int) + 1 := IntWalk.i64_in _ (by omega)
      have f9 : IntKind.i64.wrap ((q3 : Int) - 1) = (M : Int) := by rw [IntWalk.i64_in _ (by omega)]; exact f3
      obtain ⟨bl, y, hbA, -, hbl, hy, hcell⟩ := G3s.out.elem (k := M) (by rw [HL3.out]; omega)
      subst hbA
      obtain ⟨bl2, y2, hbA2, -, -, hy2, hcell2⟩ := G3s.out.elem (k := 0) (by rw [HL3.out]; omega)
      injection hbA2 with hbA2
      subst hbA2
      have hya : y2 = a := by
        have h9 := HL0.out
        rw [hy2] at h9
        injection h9
      have hyb : y = b := by
        have h9 := HLQ.out
        rw [hxq, Nat.add_sub_cancel, hy] at h9
        injection h9
      subst hya hyb
      have hcr : wr.cell? (bl.add M) = some (.int .i64 y) := (hbs.cell (by rw [block_add]; exact hbl)).trans hcell
      have e0 : bl.add 0 = bl := rfl
      rw [e0] at hcell2
      have hcr2 : wr.cell? bl = some (.int .i64 y2) := (hbs.cell hbl).trans hcell2
      have d1 : decide ((2 : Int) ≤ (q3 : Int)) = true := decide_eq_true (by omega)
      have d2 : decide ((q3 : Int) ≤ (L : Int) + 1) = true := decide_eq_true (by have := HQL.out; omega)
      have d3 : (y2 == y2) = true := by simp
      have d4 : (y == y) = true := by simp
      have dq : decide ((0 : Int) < (q3 : Int)) = true := decide_eq_true (by omega)
      have dq2 : 0 < q3 := by omega
      have dm : decide ((M : Int) < (q3 : Int)) = true := decide_eq_true (by omega)
      have hq2i : (2 : Int) ≤ (q3 : Int) := by omega
      have hqLi : (q3 : Int) ≤ (L : Int) + 1 := by have := HQL.out; omega
      have B9 := Lib.hid Br.out
      clear hcell hcell2 hy hy2 e0 hxq hx1
      go_wp2_with fail
      go_ret
      exact ⟨rfl, B9.out⟩

theorem cellsByte : Tryz.prog.cellsOf 5 = 1 := by kernel_rfl

theorem read_bytes {H : Type} {enc : TypeId × Value → H} {W : World} {spare : Nat → Bool} {held : Bool} {fuel : Nat} {v : Value} {x : DataW H × List MemPlace} (h : DataW.trod enc Tryz.prog W 0 spare held fuel 22 [v] = some x) :
    ∃ (n : Nat) (A : Option Addr) (c : Nat), v = .slice A n c ∧ ByteV W W.heap.size n A c := by
  rcases DataW.trod_slice Tryz.underlying22 h with ⟨hcs, _⟩ | ⟨a, len, cap, elems, rest, n, _, hcs, _, _, hl, hm, hlen, hel, _⟩
  · injection hcs with hcs _
    exact ⟨0, none, 0, hcs, by simp, by simp [maxLen], fun h => absurd h (by simp)⟩
  · injection hcs with hcs _
    have hex : ∀ i, i < len → ∃ z : Int, W.cell? (a.add i) = some (.int .u8 z) ∧ 0 ≤ z ∧ z ≤ 255 := by
      intro i hi
      have h1 := hel i hi
      rw [cellsByte, Nat.mul_one, List.getElem?_eq_getElem (by omega)] at h1
      obtain ⟨cs', hc, ht⟩ := Option.bind_eq_some_iff.1 h1
      obtain ⟨_, _, hat⟩ := World.cells?_some hc
      obtain ⟨z, rfl, _, hwf⟩ := DataW.trod_int Tryz.underlying5 ht
      have hz : 0 ≤ z ∧ z ≤ 255 := by simpa [Lit.wf, IntKind.min, IntKind.max, IntKind.signed, IntKind.bits] using hwf
      exact ⟨z, by simpa [Addr.add] using hat 0 (by omega), hz.1, hz.2⟩
    refine ⟨len, some a, cap, hcs, hl, hm, fun h0 => ⟨a, rfl, ?_, hex⟩⟩
    obtain ⟨z, hz, _⟩ := hex 0 h0
    have := World.block_lt_of_cell? W _ hz
    rwa [block_add] at this

theorem own : ownKnob Tryz.prog.godebug = none := by kernel_rfl
theorem laidOut : laidOutB Tryz.prog = true := by kernel_rfl

set_option maxRecDepth 100000 in
theorem lifted (os : Os) (started : os.Started) (H : Type) (enc : TypeId × Value → H) :
    ReturnsInHanded {} Tryz.checked os 3 .any (fun w args => (Rows.fnShortWaySpec.pre enc Tryz.prog Tryz.f3 [] false w args ∧ laidMetH Tryz.prog listed w) ∧ sizedMet enc Tryz.prog Tryz.f3 (OpenSpec.ofChange Rows.fnShortWaySpec) false w args)
      (Rows.fnShortWaySpec.post enc Tryz.prog Tryz.f3 false true false false) := by
  refine returnsInHanded_of_change_and (C := Tryz.checked) (X := fun w _ => laidMetH Tryz.prog listed w) (fun _ _ _ hh h => h.of_heap hh) own started (by kernel_rfl) Tryz.func3
    (ChangeSpec.witness_shaped (enc := enc) (C := Tryz.checked) (os := os) (X := fun w _ => laidMetH Tryz.prog listed w) false (World.doorLaid Tryz.prog 400 os) #[.slice none 0 0] 8 rfl (World.shaped_of_RefB (by kernel_rfl) (by kernel_rfl)) (by kernel_rfl) (by kernel_rfl) (by kernel_rfl) (door_met os _)) ?_
  intro W base args ds gs before hval0 hW _ _ hL _
  have hval : ∀ (j : Nat) t v, Tryz.f3.params[j]? = some t → args[j]? = some v → Value.okWide Tryz.prog W .any base t v := hval0
  have hW' := hW
  obtain ⟨p, q, hA0, hV, rfl, hfz, hnd⟩ := hW
  have hA : DataW.TrodAll enc Tryz.prog W 0 (fun _ => true) true Tryz.f3.params.toList args.toList ds p := hA0
  rw [Tryz.params3] at hA hval
  obtain ⟨v0, vs0, d0, ds0, p0, q0, hargs, rfl, rfl, h0, r0⟩ := trodAll_cons hA
  obtain ⟨rfl, rfl, rfl⟩ := trodAll_nil r0
  obtain rfl : args = #[v0] := by cases args; simp_all
  obtain ⟨rfl, rfl⟩ := trodVars_none hV
  have k0 := h0
  have lt0 : ∀ x ∈ p0, x.block < W.heap.size := by obtain ⟨m, hm⟩ := k0; exact DataW.trod_lt m _ _ _ hm
  obtain ⟨a0, len0, cap0, rfl⟩ := okWide_slice Tryz.underlying22 (hval 0 22 v0 rfl rfl)
  obtain ⟨fu0, hf0⟩ := h0
  obtain ⟨nb0, At0, ct0, hv0, hT0⟩ := read_bytes hf0
  injection hv0 with hv0 hv0' hv0''
  subst hv0 hv0' hv0''
  obtain ⟨hTab, hTabLt⟩ := tab_of_laid hL
  clear hA0 hval0
  simp only [List.append_nil] at hW'
  refine (walk _ _ _ W hT0 hTab hTabLt).mono fun e W' ⟨he, bel⟩ => ?_
  subst he
  exact ⟨_, rfl, _, _, _, [], _, [], hW', trodAll_mk1 (shut_bool Tryz.underlying4 _), (trodAll_cons_mk (Below.trod laidOut (by kernel_rfl) (of_decide_eq_true (by kernel_rfl)) k0 bel lt0) trodAll_mk0), rfl, bel.frame _, fun h => by cases h⟩

theorem over : Rows.fnShortWayRow.holds Tryz.pinned (OpenSpec.ofChange Rows.fnShortWaySpec) :=
  OpenClaim.holds_of_wide 3 Tryz.f3 rfl rfl rfl rfl rfl rfl rfl ⟨rfl, rfl, rfl, rfl, rfl⟩ rfl rfl rfl rfl rfl (by kernel_rfl) Tryz.func3 (by kernel_rfl)
    (of_decide_eq_true (by kernel_rfl)) (by unfold Func.isWrapper; first | (rw [if_pos (by decide +kernel)]; kernel_rfl) | (rw [if_neg (by decide +kernel)]; exact ⟨rfl, rfl⟩))
    (fun os started H enc _ => lifted os started H enc)

set_option maxRecDepth 100000 in
theorem proved : Rows.FnShortWayCardSaid :=
  Claim7.holds_tied_plain_at .later [] [.data] true (true, "1c2be277f08d7da3297d2e53c2640923796337fca388110a081093ad582ef819") false
    over (fun _ h => by cases h) (by kernel_rfl) (fun _ h => by cases h) fnShortWay_row_tie rfl ⟨rfl, rfl⟩ (by kernel_rfl) rfl
    (fun f fn hf hfn => by
      obtain rfl : f = 3 := Option.some.inj ((show Tryz.prog.funcNamed "loop.example/borrowcheck/laws.FnShortWay" = some 3 by kernel_rfl).symm.trans hf) |>.symm
      obtain rfl : fn = Tryz.f3 := (Option.some.inj (Tryz.func3.symm.trans hfn)).symm
      exact ⟨by kernel_rfl, fun j t ht => by
        rw [Tryz.params3] at ht
        have hm : t ∈ [22] := by simpa using Array.mem_of_getElem? ht
        have hall : ([22].all fun u => !Tryz.prog.wantsStandIn u) = true := by kernel_rfl
        exact (show Tryz.prog.wantsStandIn t = false by simpa using List.all_eq_true.1 hall t hm)⟩)
    (by kernel_rfl)
#print axioms proved
end Go.Proofs.YtlddoookojjleaaGreatDoor.fnShortWay
