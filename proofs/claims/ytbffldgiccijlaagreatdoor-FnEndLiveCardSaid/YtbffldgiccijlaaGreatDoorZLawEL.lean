/-
  Whatever the bytes: nothing is live behind the last point, and in a program without uses without a value nothing that a point takes and does not set is live behind it; what is live is the model's. Conditions: none.
-/
import Derived.Test.YtbffldgiccijlaaGreatDoorZPuG
import Derived.Test.YtbffldgiccijlaaGreatDoorZDlG
import Derived.Test.YtbffldgiccijlaaGreatDoorZBcG
import Derived.Test.YtbffldgiccijlaaGreatDoorZUseOf
import Derived.Test.YtbffldgiccijlaaGreatDoorZSetBy
import Derived.Test.YtbffldgiccijlaaGreatDoorZLiveI
import Derived.Test.YtbffldgiccijlaaGreatDoorZLvA
import Derived.Test.YtbffldgiccijlaaGreatDoorZUnI
import Derived.Test.YtbffldgiccijlaaGreatDoorZPoX
import Derived.Test.YtbffldgiccijlaaGreatDoorZTab
import Derived.Test.YtbffldgiccijlaaGreatDoorRows
import Derived.Test.YtbffldgiccijlaaGreatDoorCards
import Derived.Test.YtbffldgiccijlaaGreatDoorTie
import Derived.LaidMore
import Derived.SevenTiedAt
import Derived.WalkKit
import Derived.ProofKit
import Derived.OpenShut
import Derived.Lib.SmallJoins
import Derived.Deep.RegionHeld3
namespace Go.Proofs.YtbffldgiccijlaaGreatDoor.fnEndLive
open Go.ChangeShapes Go.WideShapes Go.ChangeAt Go.RowKit Go.Deep Go.Joins
set_option linter.unusedVariables false

theorem rowI_formN {w : World} {B n : Nat} {v : Value} {xs : List Int} (h : RowI w B v xs) (hn : xs.length = n) : ∃ A c, v = .slice A n c ∧ n ≤ c ∧ c ≤ maxLen := by
  obtain ⟨A, c, h1, h2, h3, _⟩ := own_form h.own
  subst hn
  exact ⟨A, c, h1, h2, h3⟩

theorem rowI_form {w : World} {B : Nat} {v : Value} {xs : List Int} (h : RowI w B v xs) : ∃ A c, v = .slice A xs.length c ∧ xs.length ≤ c ∧ c ≤ maxLen := rowI_formN h rfl

theorem points_len9 (ok : Bool) (s : Sts) (h : s.size ≤ 40000) : (pointsB ok s).length ≤ 100000 := by
  unfold pointsB
  split
  · rw [progPts_len]
    have := s.npts_le
    omega
  · simp

theorem end_live {ts : List Int} {s : Sts} {a : Int} {v : Nat} {l3 l : List Int} (hu : useOfI (validB ts s) ts s a v = 2) (hin : (v : Int) ∈ l3) (hs : setByI (validB ts s) s a ≠ (v : Int)) (h3 : AnsAt (flowLive.Rel ts) (validB ts s) s a l3) (h : AnsL (UnU ts) (validB ts s) s l) : l.length ≠ 0 := by
  rw [h3.mem] at hin
  obtain ⟨hv, h0, h1, x, hx, hl⟩ := hin
  obtain rfl : v = x := by omega
  obtain ⟨j, rfl⟩ := Int.eq_ofNat_of_zero_le h0
  rw [Int.toNat_natCast] at hl
  have hj : j < (progPts s).length := by omega
  have hd := List.getElem?_eq_getElem hj
  rw [hv] at hu hs
  rw [setByI_yes hd] at hs
  have hu2 : useI ts (progPts s)[j] (v : Int) = 2 := by
    by_cases hvl : v < ts.length
    · rwa [useOfI_yes hd hvl] at hu
    · rw [useOfI_no (fun e => hvl (by omega))] at hu
      cases hu
  have hl' : LiveB ts (progPts s) j v := hl
  obtain ⟨k, hk⟩ := live_miss (fun a b hab => (eN_lt hab).2) hl' fun k hk => Flo.gen hk ⟨⟨_, hd, hu2⟩, fun hse => hs ((setsN_at hd v).1 hse)⟩
  intro e
  have : (k : Int) ∈ l := by rw [h.mem]; exact ⟨hv, k, rfl, hk⟩
  rw [List.length_eq_zero_iff.1 e] at this
  cases this

theorem last_live {ts : List Int} {s : Sts} {l : List Int} (h : AnsAt (flowLive.Rel ts) (validB ts s) s (((pointsB (validB ts s) s).length : Int) - 1) l) : l = [] := by
  refine List.eq_nil_iff_forall_not_mem.2 fun v hv => ?_
  obtain ⟨hok, h0, h1, x, rfl, hl⟩ := (h.mem v).1 hv
  rw [hok] at h0 h1 hl
  simp only [pointsB, if_true] at h0 h1 hl
  have hl' : LiveB ts (progPts s) (((progPts s).length : Int) - 1).toNat x := hl
  rw [liveB_step] at hl'
  obtain ⟨k, hk, -⟩ := hl'
  have hlast : (progPts s)[(((progPts s).length : Int) - 1).toNat]? = some ⟨11, 0, 0, 0, []⟩ := by
    have e : (((progPts s).length : Int) - 1).toNat = (s.pts 0).length := by rw [progPts_len, s.pts_len]; omega
    rw [e]
    unfold progPts
    rw [List.getElem?_append_right (Nat.le_refl _)]
    simp
  rw [eN_iff hlast (by simp)] at hk
  simp at hk

set_option maxRecDepth 100000 in
set_option maxHeartbeats 2000000 in
theorem walk (n0 c0 : Nat) (A0 : Option Addr) (W : World) (hB : ByteV W W.heap.size n0 A0 c0) (hTab : TabAt 0 Lib.deBruijn64tab W) (hg : 0 < W.heap.size) :
    Calls Tryz.prog 8 #[.slice A0 n0 c0] W fun e w' => e = .returned (.bool true) ∧ Below W.heap.size W w' := by
  have hnc := hB.1
  have hcm := hB.2.1
  unfold maxLen at hcm
  by_cases hn : 1048576 < n0
  · go_enter Tryz.func8, Tryz.ntmps8
    go_wp2_with fail
    go_ret
    exact ⟨rfl, Below.refl _ _⟩
  have e1 : decide (1048576 < (n0 : Int)) = false := decide_eq_false (by omega)
  have HD := Lib.hid (drawLiveAfter_any n0 c0 A0 W hB)
  clear hB
  go_enter Tryz.func8, Tryz.ntmps8
  go_wp2_with fail
  refine HD.out.mono ?_
  rintro E w1 ⟨ts, s, At, As, ct, cs, a, rfl, hr1, ht1, hs1, hq, hb1⟩
  have h1s := hb1.size
  obtain ⟨n, hn⟩ : ∃ n, ts.length = n := ⟨_, rfl⟩
  obtain ⟨m, hm⟩ : ∃ m, s.len = m := ⟨_, rfl⟩
  rw [hn, hm]
  have hn9 : n ≤ 1000 := by omega
  have HN := Lib.hid hn
  have HM := Lib.hid hm
  have HSZ := Lib.hid hs1
  have hba := (Below.refl w1.heap.size w1).alloc (Nat.le_refl _) (.cells #[.slice At n ct, .slice As m cs] 26)
  have h2n := heap_alloc_new w1 (.cells #[.slice At n ct, .slice As m cs] 26)
  have h2z : w1.heap.size + 1 ≤ (w1.alloc (.cells #[.slice At n ct, .slice As m cs] 26)).heap.size := Nat.le_of_eq (by simp)
  obtain ⟨w2, hw2⟩ : ∃ w2, w1.alloc (.cells #[.slice At n ct, .slice As m cs] 26) = w2 := ⟨_, rfl⟩
  have T2 := Lib.hid (hr1.1.below hba (Nat.le_trans (Nat.le_refl _) hba.size))
  have R2 := Lib.hid (hr1.2.below hba (Nat.le_trans (Nat.le_refl _) hba.size))
  have B2 := Lib.hid (hb1.trans (hba.mono h1s))
  rw [hw2] at T2 R2 B2 h2n h2z
  have P2 := Lib.hid h2n
  clear hn hm hba hr1 ht1 hs1 hb1 h2n HD
  obtain ⟨PB, hPB⟩ : ∃ PB, w1.heap.size = PB := ⟨_, rfl⟩
  rw [hPB] at P2 h2z h1s
  have hPW : W.heap.size ≤ PB := h1s
  have hP2 : PB < w2.heap.size := h2z
  obtain ⟨ns, hns⟩ : ∃ ns, pointsB (validB ts s) s = ns := ⟨_, rfl⟩
  obtain ⟨L, hL⟩ : ∃ L, ns.length = L := ⟨_, rfl⟩
  have hL9 : L ≤ 100000 := by rw [← hL, ← hns]; exact points_len9 _ _ HSZ.out
  have HNS := Lib.hid hns
  have HLL := Lib.hid hL
  clear hns hL
  have HC := flowLive.implLiveAfter_any ts s At As ct cs a w2 T2.out R2.out (tab_below hTab hg B2.out) (by have := B2.out.size; omega)
  rw [HN.out, HM.out] at HC
  replace HC := Lib.hid HC
  have p0 : w2.cell? ⟨PB, 0, none⟩ = some (.slice At n ct) := (cell_of_block P2.out 0).trans rfl
  have p1 : w2.cell? ⟨PB, 1, none⟩ = some (.slice As m cs) := (cell_of_block P2.out 1).trans rfl
  go_upto_region 4 with (fail)
  clear hw2 hPB
  go_wp2_with fail
  refine HC.out.mono ?_
  rintro E w3 ⟨v3, l3, rfl, hrow3, hans3, hb3⟩
  obtain ⟨q3, hl3⟩ : ∃ q, l3.length = q := ⟨_, rfl⟩
  obtain ⟨A3, c3, hv3, hle3, hmx3⟩ := rowI_formN hrow3 hl3
  have hq3 : q3 ≤ 64 := by rw [← hl3]; exact hans3.length
  have HL3 := Lib.hid hl3
  have HA3 := Lib.hid hans3
  clear hl3 hans3
  subst hv3
  unfold maxLen at hmx3
  have G3 := Lib.hid hrow3.intsV
  have hz3 := hb3.size
  have T3 := Lib.hid (T2.out.below hb3 hz3)
  have R3 := Lib.hid (R2.out.below hb3 hz3)
  have P3 := Lib.hid ((hb3.block PB (by omega)).trans P2.out)
  have B3 := Lib.hid (B2.out.trans (hb3.mono (by omega)))
  have hP3 : PB < w3.heap.size := by omega
  clear hrow3 hb3 HC p0 p1
  have HC := specLiveAfter_any ts s At As ct cs a w3 (by have := HSZ.out; omega) T3.out R3.out
  rw [HN.out, HM.out] at HC
  replace HC := Lib.hid HC
  have p0 : w3.cell? ⟨PB, 0, none⟩ = some (.slice At n ct) := (cell_of_block P3.out 0).trans rfl
  have p1 : w3.cell? ⟨PB, 1, none⟩ = some (.slice As m cs) := (cell_of_block P3.out 1).trans rfl
  go_wp2_with fail
  refine HC.out.mono ?_
  rintro E w4 ⟨v4, l4, rfl, hrow4, hans4, hb4⟩
  rw [hans4.unique HA3.out] at hrow4
  clear hans4
  obtain ⟨A4, c4, hv4, hle4, hmx4⟩ := rowI_formN hrow4 HL3.out
  subst hv4
  unfold maxLen at hmx4
  have G4 := Lib.hid hrow4.intsV
  have hz4 := hb4.size
  have T4 := Lib.hid (T3.out.below hb4 hz4)
  have R4 := Lib.hid (R3.out.below hb4 hz4)
  have P4 := Lib.hid ((hb4.block PB (by omega)).trans P3.out)
  have B4 := Lib.hid (B3.out.trans (hb4.mono (by omega)))
  have hP4 : PB < w4.heap.size := by omega
  have G3 := Lib.hid (G3.out.below hb4 hz4)
  clear hrow4 hb4 HC p0 p1
  have HBC := bcInts_any l3 l3 A3 A4 c3 c4 w4 G3.out G4.out
  rw [HL3.out, decide_eq_true rfl] at HBC
  replace HBC := Lib.hid HBC
  go_wp2_with fail
  refine HBC.out.mono ?_
  rintro E w5 ⟨rfl, hb5⟩
  have hz5 := hb5.size
  have T5 := Lib.hid (T4.out.below hb5 hz5)
  have R5 := Lib.hid (R4.out.below hb5 hz5)
  have P5 := Lib.hid ((hb5.block PB (by omega)).trans P4.out)
  have B5 := Lib.hid (B4.out.trans (hb5.mono (by omega)))
  have hP5 : PB < w5.heap.size := by omega
  have G3 := Lib.hid (G3.out.below hb5 hz5)
  clear hb5 HBC
  have p0 : w5.cell? ⟨PB, 0, none⟩ = some (.slice At n ct) := (cell_of_block P5.out 0).trans rfl
  go_wp2_with fail
  clear p0
  go_loopw [6] (fun i wr => ∃ k : Nat, k ≤ n ∧ i = .int .i64 k ∧ Below w5.heap.size w5 wr) (fun i _ => n - (intOf i).toNat)
  case atStart => exact ⟨0, Nat.zero_le _, rfl, Below.refl _ _⟩
  case round =>
    obtain ⟨k, hk, rfl, hb⟩ := hrel
    have hzr := hb.size
    have Tr := Lib.hid (T5.out.below hb hzr)
    have Rr := Lib.hid (R5.out.below hb hzr)
    have Pr := Lib.hid ((hb.block PB (by omega)).trans P5.out)
    have Br := Lib.hid (B5.out.trans (hb.mono (by omega)))
    have hPr : PB < wr.heap.size := by omega
    have G3 := Lib.hid (G3.out.below hb hzr)
    by_cases hlt : k < n
    · have f1 : IntKind.i64.wrap ((k : Int) + 1) = (k : Int) + 1 := IntWalk.i64_in _ (by omega)
      obtain ⟨u, hu⟩ : ∃ u, useOfI (validB ts s) ts s a k = u := ⟨_, rfl⟩
      have HU := Lib.hid hu
      clear hu
      have HC := implUseOf_any ts s At As ct cs a k wr Tr.out Rr.out
      rw [HN.out, HM.out, HU.out] at HC
      replace HC := Lib.hid HC
      have p0 : wr.cell? ⟨PB, 0, none⟩ = some (.slice At n ct) := (cell_of_block Pr.out 0).trans rfl
      have p1 : wr.cell? ⟨PB, 1, none⟩ = some (.slice As m cs) := (cell_of_block Pr.out 1).trans rfl
      go_wp2_with fail
      refine HC.out.mono ?_
      rintro E w6 ⟨rfl, hb6⟩
      have hz6 := hb6.size
      have T6 := Lib.hid (Tr.out.below hb6 hz6)
      have R6 := Lib.hid (Rr.out.below hb6 hz6)
      have P6 := Lib.hid ((hb6.block PB (by omega)).trans Pr.out)
      have B6 := Lib.hid (Br.out.trans (hb6.mono (by omega)))
      have hP6 : PB < w6.heap.size := by omega
      have G3 := Lib.hid (G3.out.below hb6 hz6)
      have hB6 : Below w5.heap.size w5 w6 := hb.trans (hb6.mono hzr)
      clear hb6 HC p0 p1
      by_cases hu2 : u = 2
      · subst hu2
        obtain ⟨b2, hb2⟩ : ∃ b2, decide ((k : Int) ∈ l3) = b2 := ⟨_, rfl⟩
        have HB2 := Lib.hid hb2
        have HCI := bcIn_any l3 k A3 c3 w6 G3.out
        rw [HL3.out, hb2] at HCI
        replace HCI := Lib.hid HCI
        clear hb2
        go_wp2_with fail
        refine HCI.out.mono ?_
        rintro E w7 ⟨rfl, hb7⟩
        have hz7 := hb7.size
        have T7 := Lib.hid (T6.out.below hb7 hz7)
        have R7 := Lib.hid (R6.out.below hb7 hz7)
        have P7 := Lib.hid ((hb7.block PB (by omega)).trans P6.out)
        have B7 := Lib.hid (B6.out.trans (hb7.mono (by omega)))
        have hP7 : PB < w7.heap.size := by omega
        have G3 := Lib.hid (G3.out.below hb7 hz7)
        have hB7 : Below w5.heap.size w5 w7 := hB6.trans (hb7.mono (by omega))
        clear hb7 HCI
        cases b2
        · go_wp2_with fail
          go_roundw
          case rel => exact ⟨k + 1, by omega, by go_num, hB7⟩
          case measure => simp [intOf]; omega
        · obtain ⟨e, he⟩ : ∃ e, setByI (validB ts s) s a = e := ⟨_, rfl⟩
          have HE := Lib.hid he
          clear he
          have HC := implSetBy_any ts s At As ct cs a w7 T7.out R7.out (tab_below hTab hg B7.out) (by have := B7.out.size; omega)
          rw [HN.out, HM.out, HE.out] at HC
          replace HC := Lib.hid HC
          have p0 : w7.cell? ⟨PB, 0, none⟩ = some (.slice At n ct) := (cell_of_block P7.out 0).trans rfl
          have p1 : w7.cell? ⟨PB, 1, none⟩ = some (.slice As m cs) := (cell_of_block P7.out 1).trans rfl
          go_wp2_with fail
          refine HC.out.mono ?_
          rintro E w8 ⟨rfl, hb8⟩
          have hz8 := hb8.size
          have T8 := Lib.hid (T7.out.below hb8 hz8)
          have R8 := Lib.hid (R7.out.below hb8 hz8)
          have P8 := Lib.hid ((hb8.block PB (by omega)).trans P7.out)
          have B8 := Lib.hid (B7.out.trans (hb8.mono (by omega)))
          have hP8 : PB < w8.heap.size := by omega
          have G3 := Lib.hid (G3.out.below hb8 hz8)
          have hB8 : Below w5.heap.size w5 w8 := hB7.trans (hb8.mono (by omega))
          clear hb8 HC p0 p1
          by_cases hek : e = (k : Int)
          · have hne : (e != (k : Int)) = false := by simp [hek]
            clear hek
            go_wp2_with fail
            go_roundw
            case rel => exact ⟨k + 1, by omega, by go_num, hB8⟩
            case measure => simp [intOf]; omega
          · have hne : (e != (k : Int)) = true := by simpa using hek
            have HNZ : Hid (∀ l, AnsL (UnU ts) (validB ts s) s l → l.length ≠ 0) := fun l hl => end_live HU.out (of_decide_eq_true HB2.out) (by rw [HE.out]; exact hek) HA3.out hl
            have HC := flowAll.implUnsetUses_any ts s At As ct cs w8 T8.out R8.out (tab_below hTab hg B8.out) (by have := B8.out.size; omega)
            rw [HN.out, HM.out] at HC
            replace HC := Lib.hid HC
            have p0 : w8.cell? ⟨PB, 0, none⟩ = some (.slice At n ct) := (cell_of_block P8.out 0).trans rfl
            have p1 : w8.cell? ⟨PB, 1, none⟩ = some (.slice As m cs) := (cell_of_block P8.out 1).trans rfl
            go_wp2_with fail
            refine HC.out.mono ?_
            rintro E w9 ⟨v9, l9, rfl, hrow9, hans9, hb9⟩
            obtain ⟨q9, hl9⟩ : ∃ q, l9.length = q := ⟨_, rfl⟩
            obtain ⟨A9, c9, hv9, hle9, hmx9⟩ := rowI_formN hrow9 hl9
            have hq9 : q9 ≤ 64 := by rw [← hl9]; exact hans9.length
            have HL9 := Lib.hid hl9
            have HA9 := Lib.hid hans9
            clear hl9 hans9
            subst hv9
            unfold maxLen at hmx9
            have G9 := Lib.hid hrow9.intsV
            have hz9 := hb9.size
            have T9 := Lib.hid (T8.out.below hb9 hz9)
            have R9 := Lib.hid (R8.out.below hb9 hz9)
            have P9 := Lib.hid ((hb9.block PB (by omega)).trans P8.out)
            have B9 := Lib.hid (B8.out.trans (hb9.mono (by omega)))
            have hP9 : PB < w9.heap.size := by omega
            have G3 := Lib.hid (G3.out.below hb9 hz9)
            have hB9 : Below w5.heap.size w5 w9 := hB8.trans (hb9.mono (by omega))
            clear hrow9 hb9 HC p0 p1
            have hq0 : q9 ≠ 0 := by rw [← HL9.out]; exact HNZ.out _ HA9.out
            have hq1 : ((q9 : Int) == 0) = false := by simp; omega
            have hq2 : (q9 == 0) = false := by simp; omega
            go_wp2_with fail
            go_roundw
            case rel => exact ⟨k + 1, by omega, by go_num, hB9⟩
            case measure => simp [intOf]; omega
      · have hu3 : (u == 2) = false := by simpa using hu2
        go_wp2_with fail
        go_roundw
        case rel => exact ⟨k + 1, by omega, by go_num, hB6⟩
        case measure => simp [intOf]; omega
    · have hk' : k = n := by omega
      have hkn : decide ((k : Int) < (n : Int)) = false := decide_eq_false (by omega)
      clear hk'
      have f2 : IntKind.i64.wrap ((L : Int) - 1) = (L : Int) - 1 := IntWalk.i64_in _ (by omega)
      have HPO : Hid (∀ w', Below wr.heap.size wr w' → Calls Tryz.prog 14 #[.agg #[.slice At n ct, .slice As m cs]] w' fun E w'' => ∃ (A : Option Addr) (c : Nat), E = .returned (.slice A L c) ∧ Below w'.heap.size w' w'') := fun w' hb => by
        have h := implPointsOf_any ts s At As ct cs w' (Tr.out.below hb hb.size) (Rr.out.below hb hb.size)
        rw [HN.out, HM.out, HNS.out] at h
        refine h.mono ?_
        rintro E w'' ⟨v, us, rfl, hrow, hb2⟩
        obtain ⟨A, c, hv, -, -, -⟩ := hrow.reads
        rw [HLL.out] at hv
        exact ⟨A, c, by rw [hv], hb2⟩
      have HLA : Hid (∀ w', Below wr.heap.size wr w' → Calls Tryz.prog 33 #[.agg #[.slice At n ct, .slice As m cs], .int .i64 ((L : Int) - 1)] w' fun E w'' => ∃ (A : Option Addr) (c : Nat), E = .returned (.slice A 0 c) ∧ Below w'.heap.size w' w'') := fun w' hb => by
        have h := flowLive.implLiveAfter_any ts s At As ct cs ((L : Int) - 1) w' (Tr.out.below hb hb.size) (Rr.out.below hb hb.size) (tab_below hTab hg (Br.out.trans (hb.mono (by have := Br.out.size; omega)))) (by have := Br.out.size; have := hb.size; omega)
        rw [HN.out, HM.out] at h
        refine h.mono ?_
        rintro E w'' ⟨v, l, rfl, hrow, hans, hb2⟩
        have hl : l = [] := last_live (by rw [HNS.out, HLL.out]; exact hans)
        subst hl
        obtain ⟨A, c, hv, -, -⟩ := rowI_formN hrow rfl
        subst hv
        exact ⟨A, c, rfl, hb2⟩
      have p0 : wr.cell? ⟨PB, 0, none⟩ = some (.slice At n ct) := (cell_of_block Pr.out 0).trans rfl
      have p1 : wr.cell? ⟨PB, 1, none⟩ = some (.slice As m cs) := (cell_of_block Pr.out 1).trans rfl
      have HS : Hid (∀ w', Below wr.heap.size wr w' → (Below wr.heap.size wr w' ∧ w'.cell? ⟨PB, 0, none⟩ = some (.slice At n ct) ∧ w'.cell? ⟨PB, 1, none⟩ = some (.slice As m cs))) := fun w' hb => ⟨hb, (hb.cell (by have := Br.out.size; omega)).trans p0, (hb.cell (by have := Br.out.size; omega)).trans p1⟩
      go_upto_region 13 with (fail)
      go_region_held3 (fun w' => Below wr.heap.size wr w' ∧ w'.cell? ⟨PB, 0, none⟩ = some (.slice At n ct) ∧ w'.cell? ⟨PB, 1, none⟩ = some (.slice As m cs))
        (first | with_reducible exact HS.out _ ((Below.refl wr.heap.size wr).drew) | with_reducible exact HS.out _ (Below.refl wr.heap.size wr) | with_reducible exact HS.out _ ((And.left ‹Below wr.heap.size wr _ ∧ _›).trans (hbn.mono (And.left ‹Below wr.heap.size wr _ ∧ _›).size)))
        (first
          | (go_at_call 14; (with_reducible refine (HPO.out _ (And.left ‹Below wr.heap.size wr _ ∧ _›)).mono ?_); rintro E w' ⟨A9, c9, rfl, hbn⟩)
          | (go_at_call 33; (with_reducible refine (HLA.out _ (And.left ‹Below wr.heap.size wr _ ∧ _›)).mono ?_); rintro E w' ⟨A9, c9, rfl, hbn⟩))
      all_goals
        have hbl := And.left ‹Below wr.heap.size wr _ ∧ _›
        have B9 := Lib.hid (Br.out.trans (hbl.mono (by have := Br.out.size; omega)))
        go_wp2_with fail
        go_ret
        exact ⟨rfl, B9.out⟩

theorem cellsByte : Tryz.prog.cellsOf 5 = 1 := by kernel_rfl

theorem read_bytes {H : Type} {enc : TypeId × Value → H} {W : World} {spare : Nat → Bool} {held : Bool} {fuel : Nat} {v : Value} {x : DataW H × List MemPlace} (h : DataW.trod enc Tryz.prog W 0 spare held fuel 22 [v] = some x) :
    ∃ (n : Nat) (A : Option Addr) (c : Nat), v = .slice A n c ∧ ByteV W W.heap.size n A c := by
  rcases DataW.trod_slice Tryz.underlying22 h with ⟨hcs, _⟩ | ⟨a, len, cap, elems, rest, n, _, hcs, _, _, hl, hm, hlen, hel, _⟩
  · injection hcs with hcs _
    exact ⟨0, none, 0, hcs, by simp, by simp [maxLen], fun h => absurd h (by simp)⟩
  · injection hcs with hcs _
    have hex : ∀ i, i < len → ∃ z : Int, W.cell? (a.add i) = some (.int .u8 z) ∧ 0 ≤ z ∧ z ≤ 255 := by
      intro i hi
      have h1 := hel i hi
      rw [cellsByte, Nat.mul_one, List.getElem?_eq_getElem (by omega)] at h1
      obtain ⟨cs', hc, ht⟩ := Option.bind_eq_some_iff.1 h1
      obtain ⟨_, _, hat⟩ := World.cells?_some hc
      obtain ⟨z, rfl, _, hwf⟩ := DataW.trod_int Tryz.underlying5 ht
      have hz : 0 ≤ z ∧ z ≤ 255 := by simpa [Lit.wf, IntKind.min, IntKind.max, IntKind.signed, IntKind.bits] using hwf
      exact ⟨z, by simpa [Addr.add] using hat 0 (by omega), hz.1, hz.2⟩
    refine ⟨len, some a, cap, hcs, hl, hm, fun h0 => ⟨a, rfl, ?_, hex⟩⟩
    obtain ⟨z, hz, _⟩ := hex 0 h0
    have := World.block_lt_of_cell? W _ hz
    rwa [block_add] at this

theorem own : ownKnob Tryz.prog.godebug = none := by kernel_rfl
theorem laidOut : laidOutB Tryz.prog = true := by kernel_rfl

set_option maxRecDepth 100000 in
theorem lifted (os : Os) (started : os.Started) (H : Type) (enc : TypeId × Value → H) :
    ReturnsInHanded {} Tryz.checked os 8 .any (fun w args => (Rows.fnEndLiveSpec.pre enc Tryz.prog Tryz.f8 [] false w args ∧ laidMetH Tryz.prog listed w) ∧ sizedMet enc Tryz.prog Tryz.f8 (OpenSpec.ofChange Rows.fnEndLiveSpec) false w args)
      (Rows.fnEndLiveSpec.post enc Tryz.prog Tryz.f8 false true false false) := by
  refine returnsInHanded_of_change_and (C := Tryz.checked) (X := fun w _ => laidMetH Tryz.prog listed w) (fun _ _ _ hh h => h.of_heap hh) own started (by kernel_rfl) Tryz.func8
    (ChangeSpec.witness_shaped (enc := enc) (C := Tryz.checked) (os := os) (X := fun w _ => laidMetH Tryz.prog listed w) false (World.doorLaid Tryz.prog 400 os) #[.slice none 0 0] 8 rfl (World.shaped_of_RefB (by kernel_rfl) (by kernel_rfl)) (by kernel_rfl) (by kernel_rfl) (by kernel_rfl) (door_met os _)) ?_
  intro W base args ds gs before hval0 hW _ _ hL _
  have hval : ∀ (j : Nat) t v, Tryz.f8.params[j]? = some t → args[j]? = some v → Value.okWide Tryz.prog W .any base t v := hval0
  have hW' := hW
  obtain ⟨p, q, hA0, hV, rfl, hfz, hnd⟩ := hW
  have hA : DataW.TrodAll enc Tryz.prog W 0 (fun _ => true) true Tryz.f8.params.toList args.toList ds p := hA0
  rw [Tryz.params8] at hA hval
  obtain ⟨v0, vs0, d0, ds0, p0, q0, hargs, rfl, rfl, h0, r0⟩ := trodAll_cons hA
  obtain ⟨rfl, rfl, rfl⟩ := trodAll_nil r0
  obtain rfl : args = #[v0] := by cases args; simp_all
  obtain ⟨rfl, rfl⟩ := trodVars_none hV
  have k0 := h0
  have lt0 : ∀ x ∈ p0, x.block < W.heap.size := by obtain ⟨m, hm⟩ := k0; exact DataW.trod_lt m _ _ _ hm
  obtain ⟨a0, len0, cap0, rfl⟩ := okWide_slice Tryz.underlying22 (hval 0 22 v0 rfl rfl)
  obtain ⟨fu0, hf0⟩ := h0
  obtain ⟨nb0, At0, ct0, hv0, hT0⟩ := read_bytes hf0
  injection hv0 with hv0 hv0' hv0''
  subst hv0 hv0' hv0''
  obtain ⟨hTab, hTabLt⟩ := tab_of_laid hL
  clear hA0 hval0
  simp only [List.append_nil] at hW'
  refine (walk _ _ _ W hT0 hTab hTabLt).mono fun e W' ⟨he, bel⟩ => ?_
  subst he
  exact ⟨_, rfl, _, _, _, [], _, [], hW', trodAll_mk1 (shut_bool Tryz.underlying4 _), (trodAll_cons_mk (Below.trod laidOut (by kernel_rfl) (of_decide_eq_true (by kernel_rfl)) k0 bel lt0) trodAll_mk0), rfl, bel.frame _, fun h => by cases h⟩

theorem over : Rows.fnEndLiveRow.holds Tryz.pinned (OpenSpec.ofChange Rows.fnEndLiveSpec) :=
  OpenClaim.holds_of_wide 8 Tryz.f8 rfl rfl rfl rfl rfl rfl rfl ⟨rfl, rfl, rfl, rfl, rfl⟩ rfl rfl rfl rfl rfl (by kernel_rfl) Tryz.func8 (by kernel_rfl)
    (of_decide_eq_true (by kernel_rfl)) (by unfold Func.isWrapper; first | (rw [if_pos (by decide +kernel)]; kernel_rfl) | (rw [if_neg (by decide +kernel)]; exact ⟨rfl, rfl⟩))
    (fun os started H enc _ => lifted os started H enc)

set_option maxRecDepth 100000 in
theorem proved : Rows.FnEndLiveCardSaid :=
  Claim7.holds_tied_plain_at .later [] [.data] true (true, "ca4b1107ca120ec6fe4617b652e9a3e2f83b69ff52ae50c919f96cc733ce0d93") false
    over (fun _ h => by cases h) (by kernel_rfl) (fun _ h => by cases h) fnEndLive_row_tie rfl ⟨rfl, rfl⟩ (by kernel_rfl) rfl
    (fun f fn hf hfn => by
      obtain rfl : f = 8 := Option.some.inj ((show Tryz.prog.funcNamed "loop.example/borrowcheck/laws.FnEndLive" = some 8 by kernel_rfl).symm.trans hf) |>.symm
      obtain rfl : fn = Tryz.f8 := (Option.some.inj (Tryz.func8.symm.trans hfn)).symm
      exact ⟨by kernel_rfl, fun j t ht => by
        rw [Tryz.params8] at ht
        have hm : t ∈ [22] := by simpa using Array.mem_of_getElem? ht
        have hall : ([22].all fun u => !Tryz.prog.wantsStandIn u) = true := by kernel_rfl
        exact (show Tryz.prog.wantsStandIn t = false by simpa using List.all_eq_true.1 hall t hm)⟩)
    (by kernel_rfl)
#print axioms proved
end Go.Proofs.YtbffldgiccijlaaGreatDoor.fnEndLive
