/-
  Whatever the bytes: the points of a loop are a row from its choice to its jump, and LoopOf answers as its model does. Conditions: none.
-/
import Derived.Test.YtfkhgdbnjcdlmaaZLpS12
import Derived.Test.YtfkhgdbnjcdlmaaZPoX
import Derived.Test.YtfkhgdbnjcdlmaaZDrLoop
import Derived.Test.YtfkhgdbnjcdlmaaZBcG
import Derived.WalkKit
import Derived.Deep.RegionHeld3
import Derived.Deep.DeepCutAuto
import Derived.Deep.QuietTactic
import Derived.ProofKit
import Derived.OpenShut
import Derived.Lib.SmallJoins
namespace Go.Proofs.Ytfkhgdbnjcdlmaa.fnLoopBounds
open Go.ChangeShapes Go.WideShapes Go.ChangeAt Go.RowKit Go.Deep Go.Joins
set_option linter.unusedVariables false

theorem points_len9 (ok : Bool) (s : Sts) (h : s.size ≤ 40000) : (pointsB ok s).length ≤ 100000 := by
  unfold pointsB
  split
  · rw [progPts_len]
    have := s.npts_le
    omega
  · simp

theorem rowI_formN {w : World} {B n : Nat} {v : Value} {xs : List Int} (h : RowI w B v xs) (hn : xs.length = n) : ∃ A c, v = .slice A n c ∧ n ≤ c ∧ c ≤ maxLen := by
  obtain ⟨A, c, h1, h2, h3, _⟩ := own_form h.own
  subst hn
  exact ⟨A, c, h1, h2, h3⟩

theorem mid_get {A B C : List Nd} {u : Nat} {d : Nd} (h : B[u]? = some d) : (A ++ (B ++ C))[A.length + u]? = some d := by
  rw [List.getElem?_append_right (by omega), Nat.add_sub_cancel_left, List.getElem?_append_left (List.getElem?_eq_some_iff.mp h).1]
  exact h

/-- The choice and the jump of the innermost loop. -/
theorem inner_pts (at_ : Int) (s : Sts) : ∀ k z, inner at_ s k = some z → ∃ u v : Nat, z.1 = ((k + u : Nat) : Int) ∧ z.2 = ((k + v : Nat) : Int) ∧ (s.pts k)[u]? = some ⟨10, 0, 0, 0, [z.1 + 1, z.2 + 1]⟩ ∧ (s.pts k)[v]? = some ⟨10, 0, 0, 1, [z.1]⟩ := by
  induction s with
  | nil => intro k z h; cases h
  | cons op x y n t e r iht ihe ihr =>
    intro k z h
    have hlen := stPts_len op x y n k t.npts e.npts (t.pts (k + 1)) (e.pts (k + 2 + t.npts)) (t.pts_len _) (e.pts_len _)
    rw [Sts.pts_cons]
    simp only [inner] at h
    rcases or_some h with h | h
    · have hS : ∃ u v : Nat, z.1 = ((k + u : Nat) : Int) ∧ z.2 = ((k + v : Nat) : Int) ∧ (stPts op x y n k t.npts e.npts (t.pts (k + 1)) (e.pts (k + 2 + t.npts)))[u]? = some ⟨10, 0, 0, 0, [z.1 + 1, z.2 + 1]⟩ ∧ (stPts op x y n k t.npts e.npts (t.pts (k + 1)) (e.pts (k + 2 + t.npts)))[v]? = some ⟨10, 0, 0, 1, [z.1]⟩ := by
        unfold stPts
        by_cases h9 : op = 9
        · rw [if_pos h9] at h ⊢
          rcases or_some h with h | h
          · obtain ⟨u, v, h1, h2, h3, h4⟩ := iht _ _ h
            refine ⟨1 + u, 1 + v, by omega, by omega, ?_, ?_⟩
            · exact mid_get (A := [_]) h3
            · exact mid_get (A := [_]) h4
          · obtain ⟨u, v, h1, h2, h3, h4⟩ := ihe _ _ h
            have hsh : ∀ a c : Nd, a :: (t.pts (k + 1) ++ c :: e.pts (k + 2 + t.npts)) = (a :: (t.pts (k + 1) ++ [c])) ++ (e.pts (k + 2 + t.npts) ++ []) := fun a c => by simp
            rw [hsh]
            have hl : ∀ a c : Nd, (a :: (t.pts (k + 1) ++ [c])).length = 2 + t.npts := fun a c => by simp [t.pts_len]; omega
            refine ⟨2 + t.npts + u, 2 + t.npts + v, by omega, by omega, ?_, ?_⟩
            · have := mid_get (A := (⟨9, 0, 0, 0, [((k + 1 : Nat) : Int), ((k + 2 + t.npts : Nat) : Int)]⟩ :: (t.pts (k + 1) ++ [⟨10, 0, 0, 1, [((k + 2 + t.npts + e.npts : Nat) : Int)]⟩]))) (C := []) h3
              rw [hl] at this
              exact this
            · have := mid_get (A := (⟨9, 0, 0, 0, [((k + 1 : Nat) : Int), ((k + 2 + t.npts : Nat) : Int)]⟩ :: (t.pts (k + 1) ++ [⟨10, 0, 0, 1, [((k + 2 + t.npts + e.npts : Nat) : Int)]⟩]))) (C := []) h4
              rw [hl] at this
              exact this
        · rw [if_neg h9] at h ⊢
          by_cases h10 : op = 10
          · rw [if_pos h10] at h ⊢
            rcases or_some h with h | h
            · obtain ⟨u, v, h1, h2, h3, h4⟩ := iht _ _ h
              refine ⟨1 + u, 1 + v, by omega, by omega, ?_, ?_⟩
              · exact mid_get (A := [_]) h3
              · exact mid_get (A := [_]) h4
            · by_cases hc : (k : Int) ≤ at_ ∧ at_ ≤ ((k + 1 + t.npts : Nat) : Int)
              · rw [if_pos hc] at h
                injection h with h
                subst h
                refine ⟨0, 1 + t.npts, by simp, (by show ((k + 1 + t.npts : Nat) : Int) = ((k + (1 + t.npts) : Nat) : Int); omega), ?_, ?_⟩
                · show some (⟨10, 0, 0, 0, [((k + 1 : Nat) : Int), ((k + 2 + t.npts : Nat) : Int)]⟩ : Nd) = some ⟨10, 0, 0, 0, [(k : Int) + 1, ((k + 1 + t.npts : Nat) : Int) + 1]⟩
                  have e1 : ((k + 1 : Nat) : Int) = (k : Int) + 1 := by omega
                  have e2 : ((k + 2 + t.npts : Nat) : Int) = ((k + 1 + t.npts : Nat) : Int) + 1 := by omega
                  rw [e1, e2]
                · have hsh : ∀ a c : Nd, a :: (t.pts (k + 1) ++ [c]) = (a :: t.pts (k + 1)) ++ ([c] ++ []) := fun a c => by simp
                  rw [hsh]
                  have hl : ∀ a : Nd, (a :: t.pts (k + 1)).length = 1 + t.npts := fun a => by simp [t.pts_len]; omega
                  have := mid_get (A := (⟨10, 0, 0, 0, [((k + 1 : Nat) : Int), ((k + 2 + t.npts : Nat) : Int)]⟩ :: t.pts (k + 1))) (B := [⟨10, 0, 0, 1, [(k : Int)]⟩]) (C := []) (u := 0) rfl
                  rw [hl, Nat.add_zero] at this
                  exact this
              · rw [if_neg hc] at h
                cases h
          · rw [if_neg h10] at h
            cases h
      obtain ⟨u, v, h1, h2, h3, h4⟩ := hS
      refine ⟨u, v, h1, h2, ?_, ?_⟩
      · rw [List.getElem?_append_left (List.getElem?_eq_some_iff.mp h3).1]; exact h3
      · rw [List.getElem?_append_left (List.getElem?_eq_some_iff.mp h4).1]; exact h4
    · obtain ⟨u, v, h1, h2, h3, h4⟩ := ihr _ _ h
      refine ⟨stN op t.npts e.npts + u, stN op t.npts e.npts + v, by omega, by omega, ?_, ?_⟩
      · rw [List.getElem?_append_right (by omega), hlen, Nat.add_sub_cancel_left]; exact h3
      · rw [List.getElem?_append_right (by omega), hlen, Nat.add_sub_cancel_left]; exact h4

theorem loop_pts {ts : List Int} {s : Sts} {a : Int} {l : List Int} (h : AnsLp (validB ts s) s a l) (hne : l.length ≠ 0) :
    ∃ i j : Nat, i < j ∧ j ≤ 1000 ∧ l = rangeI (i : Int) (j : Int) ∧ (pointsB (validB ts s) s)[i]? = some ⟨10, 0, 0, 0, [(i : Int) + 1, (j : Int) + 1]⟩ ∧ (pointsB (validB ts s) s)[j]? = some ⟨10, 0, 0, 1, [(i : Int)]⟩ := by
  cases hv : validB ts s
  · rw [hv] at h
    exact absurd (by rw [h.1]; rfl) hne
  · rw [hv] at h
    have e := h.1
    unfold loopI at e
    rw [if_pos rfl] at e
    cases hi : inner a s 0 with
    | none =>
      rw [hi] at e
      exact absurd (by rw [e]; rfl) hne
    | some z =>
      rw [hi] at e
      have hr := inner_range a s 0 z hi
      obtain ⟨u, v, h1, h2, h3, h4⟩ := inner_pts a s 0 z hi
      have := s.npts_le
      have := valid_size hv
      rw [Nat.zero_add] at h1 h2
      have hz : z = ((u : Int), (v : Int)) := Prod.ext h1 h2
      subst hz
      simp only [pointsB, if_true]
      unfold progPts
      refine ⟨u, v, by omega, by omega, e, ?_, ?_⟩
      · rw [List.getElem?_append_left (List.getElem?_eq_some_iff.mp h3).1]; exact h3
      · rw [List.getElem?_append_left (List.getElem?_eq_some_iff.mp h4).1]; exact h4

set_option maxRecDepth 100000 in
set_option maxHeartbeats 2000000 in
theorem walk (n0 c0 : Nat) (A0 : Option Addr) (W : World) (hB : ByteV W W.heap.size n0 A0 c0) :
    Calls Try.prog 3 #[.slice A0 n0 c0] W fun e w' => e = .returned (.bool true) ∧ Below W.heap.size W w' := by
  have hnc := hB.1
  have hcm := hB.2.1
  unfold maxLen at hcm
  by_cases hn : 1048576 < n0
  · go_enter Try.func3, Try.ntmps3
    go_wp2_with fail
    go_ret
    exact ⟨rfl, Below.refl _ _⟩
  have e1 : decide (1048576 < (n0 : Int)) = false := decide_eq_false (by omega)
  have HD := Lib.hid (drawLoopOf_any n0 c0 A0 W hB)
  clear hB
  go_enter Try.func3, Try.ntmps3
  go_wp2_with fail
  refine HD.out.mono ?_
  rintro E w1 ⟨ts, s, At, As, ct, cs, a, rfl, hr1, ht1, hs1, hq, hb1⟩
  have h1s := hb1.size
  obtain ⟨n, hn⟩ : ∃ n, ts.length = n := ⟨_, rfl⟩
  obtain ⟨m, hm⟩ : ∃ m, s.len = m := ⟨_, rfl⟩
  rw [hn, hm]
  have hn9 : n ≤ 1000 := by omega
  have HN := Lib.hid hn
  have HM := Lib.hid hm
  have HSZ := Lib.hid hs1
  have hba := (Below.refl w1.heap.size w1).alloc (Nat.le_refl _) (.cells #[.slice At n ct, .slice As m cs] 26)
  have h2n := heap_alloc_new w1 (.cells #[.slice At n ct, .slice As m cs] 26)
  have h2z : w1.heap.size + 1 ≤ (w1.alloc (.cells #[.slice At n ct, .slice As m cs] 26)).heap.size := Nat.le_of_eq (by simp)
  obtain ⟨w2, hw2⟩ : ∃ w2, w1.alloc (.cells #[.slice At n ct, .slice As m cs] 26) = w2 := ⟨_, rfl⟩
  have T2 := Lib.hid (hr1.1.below hba (Nat.le_trans (Nat.le_refl _) hba.size))
  have R2 := Lib.hid (hr1.2.below hba (Nat.le_trans (Nat.le_refl _) hba.size))
  have B2 := Lib.hid (hb1.trans (hba.mono h1s))
  rw [hw2] at T2 R2 B2 h2n h2z
  have P2 := Lib.hid h2n
  clear hn hm hba hr1 ht1 hs1 hb1 h2n HD
  obtain ⟨PB, hPB⟩ : ∃ PB, w1.heap.size = PB := ⟨_, rfl⟩
  rw [hPB] at P2 h2z h1s
  have hPW : W.heap.size ≤ PB := h1s
  have hP2 : PB < w2.heap.size := h2z
  obtain ⟨ns, hns⟩ : ∃ ns, pointsB (validB ts s) s = ns := ⟨_, rfl⟩
  obtain ⟨L, hL⟩ : ∃ L, ns.length = L := ⟨_, rfl⟩
  have hL9 : L ≤ 100000 := by rw [← hL, ← hns]; exact points_len9 _ _ HSZ.out
  have HNS := Lib.hid hns
  have HLL := Lib.hid hL
  clear hns hL
  have HC := implLoopOf_any ts s At As ct cs a w2 T2.out R2.out
  rw [HN.out, HM.out] at HC
  replace HC := Lib.hid HC
  have p0 : w2.cell? ⟨PB, 0, none⟩ = some (.slice At n ct) := (cell_of_block P2.out 0).trans rfl
  have p1 : w2.cell? ⟨PB, 1, none⟩ = some (.slice As m cs) := (cell_of_block P2.out 1).trans rfl
  go_upto_region 4 with (fail)
  clear hw2 hPB
  go_wp2_with fail
  refine HC.out.mono ?_
  rintro E w3 ⟨v3, l3, rfl, hrow3, hans3, hb3⟩
  obtain ⟨q3, hl3⟩ : ∃ q, l3.length = q := ⟨_, rfl⟩
  obtain ⟨A3, c3, hv3, hle3, hmx3⟩ := rowI_formN hrow3 hl3
  have hq3 : q3 ≤ 64 := by rw [← hl3]; exact hans3.length
  have HL3 := Lib.hid hl3
  have HA3 := Lib.hid hans3
  clear hl3 hans3
  subst hv3
  unfold maxLen at hmx3
  have G3 := Lib.hid hrow3.intsV
  have hz3 := hb3.size
  have T3 := Lib.hid (T2.out.below hb3 hz3)
  have R3 := Lib.hid (R2.out.below hb3 hz3)
  have P3 := Lib.hid ((hb3.block PB (by omega)).trans P2.out)
  have B3 := Lib.hid (B2.out.trans (hb3.mono (by omega)))
  have hP3 : PB < w3.heap.size := by omega
  clear hrow3 hb3 HC p0 p1
  have HC := implPointsOf_any ts s At As ct cs w3 T3.out R3.out
  rw [HN.out, HM.out, HNS.out] at HC
  replace HC := Lib.hid HC
  have p0 : w3.cell? ⟨PB, 0, none⟩ = some (.slice At n ct) := (cell_of_block P3.out 0).trans rfl
  have p1 : w3.cell? ⟨PB, 1, none⟩ = some (.slice As m cs) := (cell_of_block P3.out 1).trans rfl
  go_wp2_with fail
  refine HC.out.mono ?_
  rintro E w4 ⟨v4, us4, rfl, hrow4, hb4⟩
  have V4 := Lib.hid hrow4.reads
  have hz4 := hb4.size
  have T4 := Lib.hid (T3.out.below hb4 hz4)
  have R4 := Lib.hid (R3.out.below hb4 hz4)
  have P4 := Lib.hid ((hb4.block PB (by omega)).trans P3.out)
  have B4 := Lib.hid (B3.out.trans (hb4.mono (by omega)))
  have hP4 : PB < w4.heap.size := by omega
  have G3 := Lib.hid (G3.out.below hb4 hz4)
  obtain ⟨A4, c4, hv4, hc4, hmx4, -⟩ := id V4.out
  rw [HLL.out] at hv4 hc4
  subst hv4
  unfold maxLen at hmx4
  clear hrow4 hb4 HC p0 p1
  have HC := specLoopOf_any ts s At As ct cs a w4 (by have := HSZ.out; omega) T4.out R4.out
  rw [HN.out, HM.out] at HC
  replace HC := Lib.hid HC
  have p0 : w4.cell? ⟨PB, 0, none⟩ = some (.slice At n ct) := (cell_of_block P4.out 0).trans rfl
  have p1 : w4.cell? ⟨PB, 1, none⟩ = some (.slice As m cs) := (cell_of_block P4.out 1).trans rfl
  by_cases hq0 : q3 = 0
  · have hq1 : ((q3 : Int) == 0) = true := by simp [hq0]
    have hq2 : decide ((q3 : Int) = 0) = true := decide_eq_true (by omega)
    have HQ1 := Lib.hid hq1
    have HQ2 := Lib.hid hq2
    clear hq0 hq1 hq2
    go_wp2_with fail
    refine HC.out.mono ?_
    rintro E w5 ⟨v5, l5, rfl, hrow5, hans5, hb5⟩
    rw [hans5.unique HA3.out] at hrow5
    clear hans5
    obtain ⟨A5, c5, hv5, hle5, hmx5⟩ := rowI_formN hrow5 HL3.out
    subst hv5
    unfold maxLen at hmx5
    have G5 := Lib.hid hrow5.intsV
    have hz5 := hb5.size
    have T5 := Lib.hid (T4.out.below hb5 hz5)
    have R5 := Lib.hid (R4.out.below hb5 hz5)
    have P5 := Lib.hid ((hb5.block PB (by omega)).trans P4.out)
    have B5 := Lib.hid (B4.out.trans (hb5.mono (by omega)))
    have hP5 : PB < w5.heap.size := by omega
    have G3 := Lib.hid (G3.out.below hb5 hz5)
    clear hrow5 hb5 HC p0 p1
    have HBC := bcInts_any l3 l3 A3 A5 c3 c5 w5 G3.out G5.out
    rw [HL3.out, decide_eq_true rfl] at HBC
    replace HBC := Lib.hid HBC
    go_wp2_with fail
    refine HBC.out.mono ?_
    rintro E w6 ⟨rfl, hb6⟩
    have hz6 := hb6.size
    have T6 := Lib.hid (T5.out.below hb6 hz6)
    have R6 := Lib.hid (R5.out.below hb6 hz6)
    have P6 := Lib.hid ((hb6.block PB (by omega)).trans P5.out)
    have B6 := Lib.hid (B5.out.trans (hb6.mono (by omega)))
    have hP6 : PB < w6.heap.size := by omega
    have G3 := Lib.hid (G3.out.below hb6 hz6)
    clear hb6 HBC
    have hq1 := HQ1.out
    have hq2 := HQ2.out
    have HC := specLoopOf_any ts s At As ct cs a w6 (by have := HSZ.out; omega) T6.out R6.out
    rw [HN.out, HM.out] at HC
    replace HC := Lib.hid HC
    have p0 : w6.cell? ⟨PB, 0, none⟩ = some (.slice At n ct) := (cell_of_block P6.out 0).trans rfl
    have p1 : w6.cell? ⟨PB, 1, none⟩ = some (.slice As m cs) := (cell_of_block P6.out 1).trans rfl
    go_wp2_with fail
    refine HC.out.mono ?_
    rintro E w7 ⟨v7, l7, rfl, hrow7, hans7, hb7⟩
    rw [hans7.unique HA3.out] at hrow7
    clear hans7
    obtain ⟨A7, c7, hv7, hle7, hmx7⟩ := rowI_formN hrow7 HL3.out
    subst hv7
    unfold maxLen at hmx7
    have G7 := Lib.hid hrow7.intsV
    have hz7 := hb7.size
    have T7 := Lib.hid (T6.out.below hb7 hz7)
    have R7 := Lib.hid (R6.out.below hb7 hz7)
    have P7 := Lib.hid ((hb7.block PB (by omega)).trans P6.out)
    have B7 := Lib.hid (B6.out.trans (hb7.mono (by omega)))
    have hP7 : PB < w7.heap.size := by omega
    have G3 := Lib.hid (G3.out.below hb7 hz7)
    clear hrow7 hb7 HC p0 p1
    have HBC := bcInts_any l3 l3 A3 A7 c3 c7 w7 G3.out G7.out
    rw [HL3.out, decide_eq_true rfl] at HBC
    replace HBC := Lib.hid HBC
    go_wp2_with fail
    refine HBC.out.mono ?_
    rintro E w8 ⟨rfl, hb8⟩
    have hz8 := hb8.size
    have T8 := Lib.hid (T7.out.below hb8 hz8)
    have R8 := Lib.hid (R7.out.below hb8 hz8)
    have P8 := Lib.hid ((hb8.block PB (by omega)).trans P7.out)
    have B8 := Lib.hid (B7.out.trans (hb8.mono (by omega)))
    have hP8 : PB < w8.heap.size := by omega
    clear hb8 HBC
    have B9 := Lib.hid B8.out
    go_wp2_with fail
    go_ret
    exact ⟨rfl, B9.out⟩
  have hq1 : ((q3 : Int) == 0) = false := by simp; omega
  have hq2 : decide ((q3 : Int) = 0) = false := decide_eq_false (by omega)
  obtain ⟨i, j, hij, hj9, hl3, hdi, hdj⟩ := loop_pts HA3.out (by rw [HL3.out]; exact hq0)
  rw [HNS.out] at hdi hdj
  have HL := Lib.hid hl3
  have HDI := Lib.hid hdi
  have HDJ := Lib.hid hdj
  have hqq : Hid (q3 = j + 1 - i) := by
    unfold Hid
    rw [← HL3.out, hl3, rangeI_len]
    omega
  clear hl3 hdi hdj
  go_wp2_with fail
  refine HC.out.mono ?_
  rintro E w5 ⟨v5, l5, rfl, hrow5, hans5, hb5⟩
  rw [hans5.unique HA3.out] at hrow5
  clear hans5
  obtain ⟨A5, c5, hv5, hle5, hmx5⟩ := rowI_formN hrow5 HL3.out
  subst hv5
  unfold maxLen at hmx5
  have G5 := Lib.hid hrow5.intsV
  have hz5 := hb5.size
  have T5 := Lib.hid (T4.out.below hb5 hz5)
  have R5 := Lib.hid (R4.out.below hb5 hz5)
  have P5 := Lib.hid ((hb5.block PB (by omega)).trans P4.out)
  have B5 := Lib.hid (B4.out.trans (hb5.mono (by omega)))
  have hP5 : PB < w5.heap.size := by omega
  have G3 := Lib.hid (G3.out.below hb5 hz5)
  have V4 := Lib.hid (V4.out.below hb5)
  clear hrow5 hb5 HC p0 p1
  have HBC := bcInts_any l3 l3 A3 A5 c3 c5 w5 G3.out G5.out
  rw [HL3.out, decide_eq_true rfl] at HBC
  replace HBC := Lib.hid HBC
  go_wp2_with fail
  refine HBC.out.mono ?_
  rintro E w6 ⟨rfl, hb6⟩
  have hz6 := hb6.size
  have T6 := Lib.hid (T5.out.below hb6 hz6)
  have R6 := Lib.hid (R5.out.below hb6 hz6)
  have P6 := Lib.hid ((hb6.block PB (by omega)).trans P5.out)
  have B6 := Lib.hid (B5.out.trans (hb6.mono (by omega)))
  have hP6 : PB < w6.heap.size := by omega
  have G3 := Lib.hid (G3.out.below hb6 hz6)
  have V4 := Lib.hid (V4.out.below hb6)
  clear hb6 HBC
  go_wp2_with fail
  go_loopw [7] (fun i wr => ∃ x : Nat, 1 ≤ x ∧ x ≤ q3 ∧ i = .int .i64 x ∧ Below w6.heap.size w6 wr) (fun i _ => q3 - (intOf i).toNat)
  case atStart => exact ⟨1, by omega, by omega, rfl, Below.refl _ _⟩
  case round =>
    obtain ⟨x, hx1, hx, rfl, hb⟩ := hrel
    obtain ⟨m, hxm⟩ : ∃ m, x = m + 1 := ⟨x - 1, by omega⟩
    have f3 : (x : Int) - 1 = (m : Int) := by omega
    have HXM := Lib.hid hxm
    clear hxm
    have hbs := hb
    have G3s := G3
    have hzr := hb.size
    have Tr := Lib.hid (T6.out.below hb hzr)
    have Rr := Lib.hid (R6.out.below hb hzr)
    have Pr := Lib.hid ((hb.block PB (by omega)).trans P6.out)
    have Br := Lib.hid (B6.out.trans (hb.mono (by omega)))
    have hPr : PB < wr.heap.size := by omega
    have G3 := Lib.hid (G3.out.below hb hzr)
    have V4 := Lib.hid (V4.out.below hb)
    by_cases hlt : x < q3
    · have hdk : decide ((x : Int) < (q3 : Int)) = true := decide_eq_true (by omega)
      have f1 : IntKind.i64.wrap ((x : Int) + 1) = (x : Int) + 1 := IntWalk.i64_in _ (by omega)
      have hmq : m < q3 := by omega
      have f7 : IntKind.i64.wrap (m : Int) = (m : Int) := IntWalk.i64_in _ (by omega)
      have f2 : IntKind.i64.wrap ((x : Int) - 1) = (m : Int) := by rw [IntWalk.i64_in _ (by omega)]; omega
      have hdm : decide ((m : Int) < (q3 : Int)) = true := decide_eq_true (by omega)
      obtain ⟨bl, y, hbA, -, hbl, hy, hcell⟩ := G3s.out.elem (k := m) (by rw [HL3.out]; omega)
      subst hbA
      obtain ⟨bl2, y2, hbA2, -, -, hy2, hcell2⟩ := G3s.out.elem (k := x) (by rw [HL3.out]; omega)
      injection hbA2 with hbA2
      subst hbA2
      rw [HL.out] at hy hy2
      rw [rangeI_get (by have := hqq.out; omega)] at hy hy2
      injection hy with hy
      injection hy2 with hy2
      have ey : y2 = y + 1 := by have := HXM.out; omega
      subst ey
      have hyb : 0 ≤ y ∧ y ≤ 2000 := by omega
      have hyb2 := hyb
      have f4 : IntKind.i64.wrap (y + 1) = y + 1 := IntWalk.i64_in _ (by omega)
      have f5 : (y + 1 != y + 1) = false := by simp
      have hcr : wr.cell? (bl.add m) = some (.int .i64 y) := (hbs.cell (by rw [block_add]; exact hbl)).trans hcell
      have hcr2 : wr.cell? (bl.add x) = some (.int .i64 (y + 1)) := (hbs.cell (by rw [block_add]; exact hbl)).trans hcell2
      have hzl : bl.block < wr.heap.size := by omega
      clear hcell hcell2 hy hy2
      have HS : Hid (∀ w', Below wr.heap.size wr w' → (Below wr.heap.size wr w' ∧ w'.cell? (bl.add m) = some (.int .i64 y) ∧ w'.cell? (bl.add x) = some (.int .i64 (y + 1)))) := fun w' hb => ⟨hb, (hb.cell (by rw [block_add]; omega)).trans hcr, (hb.cell (by rw [block_add]; omega)).trans hcr2⟩
      go_upto_region 11 with (fail)
      go_region_held3 (fun w' => Below wr.heap.size wr w' ∧ w'.cell? (bl.add m) = some (.int .i64 y) ∧ w'.cell? (bl.add x) = some (.int .i64 (y + 1)))
        (first | with_reducible exact HS.out _ ((Below.refl wr.heap.size wr).drew) | with_reducible exact HS.out _ (Below.refl wr.heap.size wr) | fail)
        (fail)
      all_goals
        have hbl9 := And.left ‹Below wr.heap.size wr _ ∧ _›
        have B9 := hb.trans (hbl9.mono hzr)
        go_wp2_with fail
        go_roundw
        case rel => exact ⟨x + 1, by omega, by omega, by go_num, B9⟩
        case measure => simp [intOf]; omega
    · have hmq : q3 = m + 1 := by have := HXM.out; omega
      have hkq : decide ((x : Int) < (q3 : Int)) = false := decide_eq_false (by omega)
      clear f3
      have f3 : ((q3 : Nat) : Int) - 1 = (m : Int) := by omega
      have hmq2 : m < q3 := by omega
      have f7 : IntKind.i64.wrap (m : Int) = (m : Int) := IntWalk.i64_in _ (by omega)
      have HMQ := Lib.hid hmq
      obtain ⟨bl, y, hbA, -, hbl, hy, hcell⟩ := G3s.out.elem (k := m) (by rw [HL3.out]; omega)
      subst hbA
      obtain ⟨bl2, y2, hbA2, -, -, hy2, hcell2⟩ := G3s.out.elem (k := 0) (by rw [HL3.out]; omega)
      injection hbA2 with hbA2
      subst hbA2
      rw [HL.out] at hy hy2
      rw [rangeI_get (by have := hqq.out; omega)] at hy hy2
      injection hy with hy
      injection hy2 with hy2
      have ey : y = (j : Int) := by have := hqq.out; omega
      have ey2 : y2 = (i : Int) := by omega
      subst ey ey2
      have hcr : wr.cell? (bl.add m) = some (.int .i64 (j : Int)) := (hbs.cell (by rw [block_add]; exact hbl)).trans hcell
      have e0 : bl.add 0 = bl := rfl
      rw [e0] at hcell2
      have hcr2 : wr.cell? bl = some (.int .i64 (i : Int)) := (hbs.cell hbl).trans hcell2
      have hzl : bl.block < wr.heap.size := by omega
      have hjL : j < L := by rw [← HLL.out]; exact (List.getElem?_eq_some_iff.mp HDJ.out).1
      have hiL : i < L := by omega
      have dj : decide ((j : Int) < (L : Int)) = true := decide_eq_true (by omega)
      have di : decide ((i : Int) < (L : Int)) = true := decide_eq_true (by omega)
      have dq : decide ((0 : Int) < (q3 : Int)) = true := decide_eq_true (by omega)
      have dq2 : 0 < q3 := by omega
      have dm : decide ((m : Int) < (q3 : Int)) = true := decide_eq_true (by omega)
      obtain ⟨A1, cc1, e1, -, -, h4⟩ := id V4.out
      injection e1 with e1 e1m e1'
      subst e1 e1'
      obtain ⟨g2, hg0, hgl2, hcc⟩ := h4 (by rw [HLL.out]; omega)
      subst hg0
      obtain ⟨Au, cu, ⟨a0, -, -, -, a4⟩, hI⟩ := hcc i _ HDI.out
      obtain ⟨Av, cv, ⟨-, -, -, -, b4⟩, hJ⟩ := hcc j _ HDJ.out
      obtain ⟨bu, u1, hbu, -, hul, hu1, hcu⟩ := hI.elem (k := 1) (by simp)
      obtain ⟨bv, v0, hbv, -, hvl, hv0, hcv⟩ := hJ.elem (k := 0) (by simp)
      subst hbu hbv
      simp only [List.getElem?_cons_succ, List.getElem?_cons_zero, Option.some.injEq] at hu1 hv0
      subst hu1 hv0
      have e2 : bv.add 0 = bv := rfl
      rw [e2] at hcv
      simp only [List.length_cons, List.length_nil, Nat.zero_add, Nat.reduceAdd] at a4 b4
      have e3 : bu.add 1 = ⟨bu.block, bu.off + 1, none⟩ := by simp [Addr.add]
      rw [e3] at hcu
      have f6 : IntKind.i64.wrap ((j : Int) + 1) = (j : Int) + 1 := IntWalk.i64_in _ (by omega)
      have t1 : ((10 : Int) == 10) = true := rfl
      have t2 : ((2 : Int) == 2) = true := rfl
      have t3 : ((j : Int) + 1 == (j : Int) + 1) = true := by simp
      have t4 : ((i : Int) == (i : Int)) = true := by simp
      clear hcell hcell2 hy hy2 e0 e2 e3 h4 hcc e1m hI hJ hx1 hmq hij hj9
      go_upto_region 14 with (fail)
      have HS : Hid (∀ w', Below wr.heap.size wr w' → (Below wr.heap.size wr w' ∧ w'.cell? bl = some (.int .i64 (i : Int)) ∧ w'.cell? ⟨g2, i * 5, none⟩ = some (.int .i64 10) ∧ w'.cell? ⟨g2, i * 5 + 4, none⟩ = some (.slice (some bu) 2 cu) ∧ w'.cell? ⟨bu.block, bu.off + 1, none⟩ = some (.int .i64 ((j : Int) + 1)) ∧ w'.cell? ⟨g2, j * 5 + 4, none⟩ = some (.slice (some bv) 1 cv) ∧ w'.cell? bv = some (.int .i64 (i : Int)))) := fun w' hb => ⟨hb, (hb.cell hzl).trans hcr2, (hb.cell (p := ⟨g2, i * 5, none⟩) hgl2).trans a0, (hb.cell (p := ⟨g2, i * 5 + 4, none⟩) hgl2).trans a4, (hb.cell (p := ⟨bu.block, bu.off + 1, none⟩) hul).trans hcu, (hb.cell (p := ⟨g2, j * 5 + 4, none⟩) hgl2).trans b4, (hb.cell hvl).trans hcv⟩
      go_region_held3 (fun w' => Below wr.heap.size wr w' ∧ w'.cell? bl = some (.int .i64 (i : Int)) ∧ w'.cell? ⟨g2, i * 5, none⟩ = some (.int .i64 10) ∧ w'.cell? ⟨g2, i * 5 + 4, none⟩ = some (.slice (some bu) 2 cu) ∧ w'.cell? ⟨bu.block, bu.off + 1, none⟩ = some (.int .i64 ((j : Int) + 1)) ∧ w'.cell? ⟨g2, j * 5 + 4, none⟩ = some (.slice (some bv) 1 cv) ∧ w'.cell? bv = some (.int .i64 (i : Int)))
        (first | with_reducible exact HS.out _ ((Below.refl wr.heap.size wr).drew) | with_reducible exact HS.out _ (Below.refl wr.heap.size wr) | fail)
        (fail)
      all_goals
        have hbl9 := And.left ‹Below wr.heap.size wr _ ∧ _›
        have B9 := Lib.hid (Br.out.trans (hbl9.mono (by have := Br.out.size; omega)))
        go_wp2_with fail
        go_ret
        exact ⟨rfl, B9.out⟩

theorem cellsByte : Try.prog.cellsOf 5 = 1 := by kernel_rfl

theorem read_bytes {H : Type} {enc : TypeId × Value → H} {W : World} {spare : Nat → Bool} {held : Bool} {fuel : Nat} {v : Value} {x : DataW H × List MemPlace} (h : DataW.trod enc Try.prog W 0 spare held fuel 22 [v] = some x) :
    ∃ (n : Nat) (A : Option Addr) (c : Nat), v = .slice A n c ∧ ByteV W W.heap.size n A c := by
  rcases DataW.trod_slice Try.underlying22 h with ⟨hcs, _⟩ | ⟨a, len, cap, elems, rest, n, _, hcs, _, _, hl, hm, hlen, hel, _⟩
  · injection hcs with hcs _
    exact ⟨0, none, 0, hcs, by simp, by simp [maxLen], fun h => absurd h (by simp)⟩
  · injection hcs with hcs _
    have hex : ∀ i, i < len → ∃ z : Int, W.cell? (a.add i) = some (.int .u8 z) ∧ 0 ≤ z ∧ z ≤ 255 := by
      intro i hi
      have h1 := hel i hi
      rw [cellsByte, Nat.mul_one, List.getElem?_eq_getElem (by omega)] at h1
      obtain ⟨cs', hc, ht⟩ := Option.bind_eq_some_iff.1 h1
      obtain ⟨_, _, hat⟩ := World.cells?_some hc
      obtain ⟨z, rfl, _, hwf⟩ := DataW.trod_int Try.underlying5 ht
      have hz : 0 ≤ z ∧ z ≤ 255 := by simpa [Lit.wf, IntKind.min, IntKind.max, IntKind.signed, IntKind.bits] using hwf
      exact ⟨z, by simpa [Addr.add] using hat 0 (by omega), hz.1, hz.2⟩
    refine ⟨len, some a, cap, hcs, hl, hm, fun h0 => ⟨a, rfl, ?_, hex⟩⟩
    obtain ⟨z, hz, _⟩ := hex 0 h0
    have := World.block_lt_of_cell? W _ hz
    rwa [block_add] at this

theorem own : ownKnob Try.prog.godebug = none := by kernel_rfl
theorem laidOut : laidOutB Try.prog = true := by kernel_rfl

set_option maxRecDepth 100000 in
theorem lifted (os : Os) (started : os.Started) (H : Type) (enc : TypeId × Value → H) :
    ReturnsInHanded {} Try.checked os 3 .any (Rows.fnLoopBoundsSpec.pre6 enc Try.prog Try.f3 Rows.fnLoopBoundsRow.domain false) (Rows.fnLoopBoundsSpec.post enc Try.prog Try.f3 false true false false) := by
  refine returnsInHanded_of_change (C := Try.checked) own started (by kernel_rfl) Try.func3
    (ChangeSpec.witness6 (enc := enc) (C := Try.checked) false ⟨#[], #[.slice none 0 0], []⟩ 8 (by kernel_rfl) (by kernel_rfl) (by kernel_rfl) (by kernel_rfl)) ?_
  intro W base args ds gs before hval0 hW hcnd _
  have hval : ∀ (j : Nat) t v, Try.f3.params[j]? = some t → args[j]? = some v → Value.okWide Try.prog W .any base t v := hval0
  have hW' := hW
  obtain ⟨p, q, hA0, hV, rfl, hfz, hnd⟩ := hW
  have hA : DataW.TrodAll enc Try.prog W 0 (fun _ => true) true Try.f3.params.toList args.toList ds p := hA0
  rw [Try.params3] at hA hval
  obtain ⟨v0, vs0, d0, ds0, p0, q0, hargs, rfl, rfl, h0, r0⟩ := trodAll_cons hA
  obtain ⟨rfl, rfl, rfl⟩ := trodAll_nil r0
  obtain rfl : args = #[v0] := by cases args; simp_all
  obtain ⟨rfl, rfl⟩ := trodVars_none hV
  have k0 := h0
  have lt0 : ∀ x ∈ p0, x.block < W.heap.size := by obtain ⟨m, hm⟩ := k0; exact DataW.trod_lt m _ _ _ hm
  obtain ⟨a0, len0, cap0, rfl⟩ := okWide_slice Try.underlying22 (hval 0 22 v0 rfl rfl)
  obtain ⟨fu0, hf0⟩ := h0
  obtain ⟨nb0, At0, ct0, hv0, hT0⟩ := read_bytes hf0
  injection hv0 with hv0 hv0' hv0''
  subst hv0 hv0' hv0''
  clear hA0 hval0
  simp only [List.append_nil] at hW'
  refine (walk _ _ _ W hT0).mono fun e W' ⟨he, bel⟩ => ?_
  subst he
  exact ⟨_, rfl, _, _, _, [], _, [], hW', trodAll_mk1 (shut_bool Try.underlying4 _), (trodAll_cons_mk (Below.trod laidOut (by kernel_rfl) (of_decide_eq_true (by kernel_rfl)) k0 bel lt0) trodAll_mk0), rfl, bel.frame _, fun h => by cases h⟩

theorem over : Rows.fnLoopBoundsRow.holds Try.pinned (OpenSpec.ofChange Rows.fnLoopBoundsSpec) :=
  OpenClaim.holds_of_wide 3 Try.f3 rfl rfl rfl rfl rfl rfl rfl ⟨rfl, rfl, rfl, rfl, rfl⟩ rfl rfl rfl rfl rfl (by kernel_rfl) Try.func3 (by kernel_rfl)
    (of_decide_eq_true (by kernel_rfl)) (by unfold Func.isWrapper; first | (rw [if_pos (by decide +kernel)]; kernel_rfl) | (rw [if_neg (by decide +kernel)]; exact ⟨rfl, rfl⟩))
    (fun os started H enc _ => lifted os started H enc)

theorem proved : Rows.FnLoopBoundsSaid :=
  over
#print axioms proved
end Go.Proofs.Ytfkhgdbnjcdlmaa.fnLoopBounds
