/-
  The laws' comparison of lists of points; the model's draw of the argument of PointsOf; and where a point leads, as plain data.
  Whatever the bytes: a simple point leads to the one behind it, and points are the model's. Conditions: none.
-/
import Derived.Test.YtcaklhempmlpgaaDrG
import Derived.Test.YtcaklhempmlpgaaPoG
import Derived.Deep.RegionHeld3
import Derived.WalkKit
import Derived.ProofKit
import Derived.OpenShut
import Derived.Lib.SmallJoins
namespace Go.Proofs.Ytcaklhempmlpgaa
open Go.RowKit Go.Deep
set_option linter.unusedVariables false

/-- A simple point leads to the one behind it; so does the first way of a point with two. -/
theorem next_fact (s : Sts) : ∀ (k i : Nat) (d : Nd), (s.pts k)[i]? = some d → (d.op < 9 → d.next = [((k + i + 1 : Nat) : Int)]) ∧ (d.next.length = 2 → d.next[0]? = some ((k + i + 1 : Nat) : Int)) := by
  induction s with
  | nil => intro k i d h; simp [Sts.pts] at h
  | cons op x y n t e r iht ihe ihr =>
    intro k i d h
    rw [Sts.pts_cons] at h
    have hl := stPts_len op x y n k t.npts e.npts (t.pts (k + 1)) (e.pts (k + 2 + t.npts)) (t.pts_len _) (e.pts_len _)
    by_cases hi : i < stN op t.npts e.npts
    · rw [List.getElem?_append_left (by rw [hl]; exact hi)] at h
      unfold stPts at h
      by_cases h9 : op = 9
      · rw [if_pos h9] at h
        cases i with
        | zero =>
          simp only [List.getElem?_cons_zero, Option.some.injEq] at h
          subst h
          exact ⟨fun e => absurd e (by simp), fun _ => by simp⟩
        | succ i =>
          rw [List.getElem?_cons_succ] at h
          by_cases h1 : i < t.npts
          · rw [List.getElem?_append_left (by rw [t.pts_len]; exact h1)] at h
            have := iht (k + 1) i d h
            rwa [show k + 1 + i + 1 = k + (i + 1) + 1 by omega] at this
          · rw [List.getElem?_append_right (by rw [t.pts_len]; omega), t.pts_len] at h
            by_cases h2 : i = t.npts
            · subst h2
              rw [Nat.sub_self, List.getElem?_cons_zero, Option.some.injEq] at h
              subst h
              exact ⟨fun e => absurd e (by simp), fun e => by simp at e⟩
            · obtain ⟨j, hj⟩ : ∃ j, i - t.npts = j + 1 := ⟨i - t.npts - 1, by omega⟩
              rw [hj, List.getElem?_cons_succ] at h
              have := ihe (k + 2 + t.npts) j d h
              rwa [show k + 2 + t.npts + j + 1 = k + (i + 1) + 1 by omega] at this
      · rw [if_neg h9] at h
        by_cases h10 : op = 10
        · rw [if_pos h10] at h
          cases i with
          | zero =>
            simp only [List.getElem?_cons_zero, Option.some.injEq] at h
            subst h
            exact ⟨fun e => absurd e (by simp), fun _ => by simp⟩
          | succ i =>
            rw [List.getElem?_cons_succ] at h
            by_cases h1 : i < t.npts
            · rw [List.getElem?_append_left (by rw [t.pts_len]; exact h1)] at h
              have := iht (k + 1) i d h
              rwa [show k + 1 + i + 1 = k + (i + 1) + 1 by omega] at this
            · rw [List.getElem?_append_right (by rw [t.pts_len]; omega), t.pts_len] at h
              have hz : i - t.npts = 0 := by
                have := (List.getElem?_eq_some_iff.1 h).1
                simp at this
                omega
              rw [hz, List.getElem?_cons_zero, Option.some.injEq] at h
              subst h
              exact ⟨fun e => absurd e (by simp), fun e => by simp at e⟩
        · rw [if_neg h10] at h
          have hz : i = 0 := by
            have := (List.getElem?_eq_some_iff.1 h).1
            simp at this
            omega
          subst hz
          simp only [List.getElem?_cons_zero, Option.some.injEq] at h
          subst h
          exact ⟨fun _ => by simp, fun e => by simp at e⟩
    · rw [List.getElem?_append_right (by rw [hl]; omega), hl] at h
      have := ihr _ _ d h
      rwa [show k + stN op t.npts e.npts + (i - stN op t.npts e.npts) + 1 = k + i + 1 by omega] at this

theorem prog_fact {s : Sts} {i : Nat} {d : Nd} (h : (progPts s)[i]? = some d) : (d.op < 9 → d.next = [((i + 1 : Nat) : Int)]) ∧ (d.next.length = 2 → d.next[0]? = some ((i + 1 : Nat) : Int)) := by
  unfold progPts at h
  by_cases hi : i < s.npts
  · rw [List.getElem?_append_left (by rw [s.pts_len]; exact hi)] at h
    have := next_fact s 0 i d h
    rwa [Nat.zero_add] at this
  · rw [List.getElem?_append_right (by rw [s.pts_len]; omega), s.pts_len] at h
    have hz : i - s.npts = 0 := by
      have := (List.getElem?_eq_some_iff.1 h).1
      simp at this
      omega
    rw [hz, List.getElem?_cons_zero, Option.some.injEq] at h
    subst h
    exact ⟨fun e => absurd e (by simp), fun e => by simp at e⟩

/-- The ten cells of two points that are compared. -/
abbrev PpK (g g' k : Nat) (op x y n : Int) (u u' : Value) (w : World) : Prop :=
  w.cell? ⟨g, k * 5, none⟩ = some (.int .i64 op) ∧ w.cell? ⟨g, k * 5 + 1, none⟩ = some (.int .i64 x) ∧ w.cell? ⟨g, k * 5 + 2, none⟩ = some (.int .i64 y) ∧ w.cell? ⟨g, k * 5 + 3, none⟩ = some (.int .i64 n) ∧ w.cell? ⟨g, k * 5 + 4, none⟩ = some u ∧
  w.cell? ⟨g', k * 5, none⟩ = some (.int .i64 op) ∧ w.cell? ⟨g', k * 5 + 1, none⟩ = some (.int .i64 x) ∧ w.cell? ⟨g', k * 5 + 2, none⟩ = some (.int .i64 y) ∧ w.cell? ⟨g', k * 5 + 3, none⟩ = some (.int .i64 n) ∧ w.cell? ⟨g', k * 5 + 4, none⟩ = some u'

theorem PpK.below {g g' k : Nat} {op x y n : Int} {u u' : Value} {w w' : World} (h : PpK g g' k op x y n u u' w) (hb : Below w.heap.size w w') (h1 : g < w.heap.size) (h2 : g' < w.heap.size) : PpK g g' k op x y n u u' w' := by
  obtain ⟨a0, a1, a2, a3, a4, b0, b1, b2, b3, b4⟩ := h
  exact ⟨(hb.cell h1).trans a0, (hb.cell h1).trans a1, (hb.cell h1).trans a2, (hb.cell h1).trans a3, (hb.cell h1).trans a4, (hb.cell h2).trans b0, (hb.cell h2).trans b1, (hb.cell h2).trans b2, (hb.cell h2).trans b3, (hb.cell h2).trans b4⟩

set_option maxRecDepth 100000 in
set_option maxHeartbeats 2000000 in
theorem bcPoints_any (ns : List Nd) (v v' : Value) (w : World) (hn : ns.length ≤ 10000000) (h : PtsV w v ns) (h' : PtsV w v' ns) :
    Calls Try.prog 15 #[v, v'] w fun e w' => e = .returned (.bool true) ∧ Below w.heap.size w w' := by
  obtain ⟨A, c, hv, hc1, hc2, -⟩ := id h
  obtain ⟨A', c', hv', hc1', hc2', -⟩ := id h'
  obtain ⟨q, hq⟩ : ∃ q, q = ns.length := ⟨_, rfl⟩
  rw [← hq] at hv hv' hc1 hc1' hn
  subst hv hv'
  unfold maxLen at hc2 hc2'
  have HN := Lib.hid hq
  have H := Lib.hid h
  have H' := Lib.hid h'
  clear hq h h'
  go_enter Try.func15, Try.ntmps15
  go_wp2_with fail
  go_loopw [5] (fun i wr => ∃ k : Nat, k ≤ q ∧ i = .int .i64 k ∧ Below w.heap.size w wr) (fun i _ => q - (intOf i).toNat)
  case atStart => exact ⟨0, Nat.zero_le _, rfl, Below.refl _ _⟩
  case round =>
    obtain ⟨k, hk, rfl, hb⟩ := hrel
    by_cases hlt : k < q
    · have hkd : k < ns.length := by rw [← HN.out]; exact hlt
      obtain ⟨A1, c1, e1, -, -, h4⟩ := H.out.below hb
      obtain ⟨A2, c2, e2, -, -, h4'⟩ := H'.out.below hb
      injection e1 with e1 e1m e1'
      subst e1 e1'
      injection e2 with e2 e2m e2'
      subst e2 e2'
      obtain ⟨g, rfl, hg, hc⟩ := h4 (by omega)
      obtain ⟨g', rfl, hg', hc'⟩ := h4' (by omega)
      obtain ⟨Au, cu, ⟨a0, a1, a2, a3, a4⟩, hI⟩ := hc k _ (List.getElem?_eq_getElem hkd)
      obtain ⟨Au', cu', ⟨b0, b1, b2, b3, b4⟩, hI'⟩ := hc' k _ (List.getElem?_eq_getElem hkd)
      generalize ns[k] = d at *
      obtain ⟨op, x, y, n, nx⟩ := d
      simp only at a0 a1 a2 a3 a4 b0 b1 b2 b3 b4 hI hI'
      clear hc hc' h4 h4' e1m e2m
      have hbz := hb.size
      have hbd : Below wr.heap.size wr wr.drew := (Below.refl wr.heap.size wr).drew
      have HCI := bcInts_any nx nx Au Au' cu cu' wr.drew (hI.below hbd hbd.size) (hI'.below hbd hbd.size)
      rw [decide_eq_true rfl] at HCI
      replace HCI := Lib.hid HCI
      obtain ⟨nl, hnl⟩ : ∃ nl, nx.length = nl := ⟨_, rfl⟩
      rw [hnl] at HCI a4 b4
      have hS0 : PpK g g' k op x y n (.slice Au nl cu) (.slice Au' nl cu') wr := ⟨a0, a1, a2, a3, a4, b0, b1, b2, b3, b4⟩
      have hSd : PpK g g' k op x y n (.slice Au nl cu) (.slice Au' nl cu') wr.drew := hS0
      have q0 : (op != op) = false := by simp
      have q1 : (x != x) = false := by simp
      have q2 : (y != y) = false := by simp
      have q3 : (n != n) = false := by simp
      clear hI hI' a0 a1 a2 a3 a4 b0 b1 b2 b3 b4 hnl
      go_upto_region 6 with (fail)
      go_region_held3 (PpK g g' k op x y n (.slice Au nl cu) (.slice Au' nl cu'))
        (first | with_reducible exact hS0 | with_reducible exact hSd | with_reducible exact hS7)
        ((go_at_call 11; (with_reducible refine HCI.out.mono ?_); rintro E w7 ⟨rfl, hb7⟩; have hS7 : PpK g g' k op x y n (.slice Au nl cu) (.slice Au' nl cu') w7 := hSd.below hb7 (by show _ < wr.heap.size; exact hg) (by show _ < wr.heap.size; exact hg'); have HB7 := Lib.hid (hb.trans ((hbd.trans (hb7.mono (Nat.le_refl _))).mono hbz))))
      clear hS0 hSd hS7 HCI hbd
      go_wp2_with fail
      go_roundw
      case rel => exact ⟨k + 1, by omega, by go_num, HB7.out⟩
      case measure => simp [intOf]; omega
    · have hk' : k = q := by omega
      subst hk'
      go_wp2_with fail
      go_ret
      exact ⟨rfl, hb⟩

end Go.Proofs.Ytcaklhempmlpgaa

namespace Go.Proofs.Ytcaklhempmlpgaa.fnNextPoint
open Go.ChangeShapes Go.WideShapes Go.ChangeAt Go.RowKit Go.Deep Go.Joins
set_option linter.unusedVariables false

set_option maxRecDepth 100000 in
set_option maxHeartbeats 2000000 in
theorem drawPointsOf_any (nb cb : Nat) (Ab : Option Addr) (w : World) (hB : ByteV w w.heap.size nb Ab cb) : Calls Try.prog 14 #[.slice Ab nb cb] w fun E w' => ∃ (ts : List Int) (s : Sts) (At As : Option Addr) (ct cs : Nat), E = .returned (.agg #[.slice At ts.length ct, .slice As s.len cs]) ∧ IntsV w' 0 w'.heap.size ts At ct ∧ RepV w' 0 w'.heap.size s As cs ∧ s.size ≤ 40000 ∧ Below w.heap.size w w' := by
  obtain ⟨w0, hw0⟩ : ∃ w0, w.alloc (.cells #[.slice none 0 0, .slice none 0 0] 26) = w0 := ⟨_, rfl⟩
  have hb0 := (Below.refl w.heap.size w).alloc (Nat.le_refl _) (.cells #[.slice none 0 0, .slice none 0 0] 26)
  have X0 := Lib.hid (heap_alloc_new w (.cells #[.slice none 0 0, .slice none 0 0] 26))
  have hz0 : w.heap.size + 1 ≤ (w.alloc (.cells #[.slice none 0 0, .slice none 0 0] 26)).heap.size := Nat.le_of_eq (by simp)
  have HO := Lib.hid (l17Open_any nb cb Ab (w.alloc (.cells #[.slice none 0 0, .slice none 0 0] 26)) (hB.below hb0 (by simp)))
  rw [hw0] at X0 hz0 HO
  have HB0 : Hid (Below w.heap.size w w0) := by rw [← hw0]; exact hb0
  clear hb0 hB
  go_enter Try.func14, Try.ntmps14
  go_upto_region 1 with (fail)
  clear hw0
  go_wp2_with fail
  refine HO.out.mono ?_
  rintro E w1 ⟨rfl, hs1, hb1⟩
  have hz1 := hb1.size
  have hsl := hs1.lt
  obtain ⟨R, hR⟩ : ∃ R, w0.heap.size = R := ⟨_, rfl⟩
  have S1 := Lib.hid hs1
  have X1 := Lib.hid ((hb1.block w.heap.size (by omega)).trans X0.out)
  have N1 := Lib.hid (HB0.out.trans (hb1.mono (by omega)))
  rw [hR] at S1 hz0 hz1 hsl
  rw [hR]
  clear hs1 hb1 HO hR
  have HBR := Lib.hid (l2Branch_any R 0 w1 S1.out (by omega))
  go_wp2_with fail
  refine HBR.out.mono ?_
  rintro E w2 ⟨ts, s, At, As, ct, cs, rfl, hr2, ht, hs, hs2, hb2⟩
  obtain ⟨n, hn⟩ : ∃ n, ts.length = n := ⟨_, rfl⟩
  obtain ⟨m, hm⟩ : ∃ m, s.len = m := ⟨_, rfl⟩
  have HN := Lib.hid hn
  have HM := Lib.hid hm
  rw [hn, hm]
  have hX2 := (hb2.block w.heap.size (by omega) (by omega)).trans X1.out
  have z0 : w2.cell? ⟨w.heap.size, 0, none⟩ = some (.slice none 0 0) := (cell_of_block hX2 0).trans rfl
  have z1 : w2.cell? ⟨w.heap.size, 1, none⟩ = some (.slice none 0 0) := (cell_of_block hX2 1).trans rfl
  have y0 := frozen_of_block hX2 0
  have y1 := frozen_of_block hX2 1
  have HR := Lib.hid (((hr2.setLow (o := 0) (x := .slice At n ct) (show w.heap.size < w1.heap.size by omega)).setLow (o := 1) (x := .slice As m cs) (show w.heap.size < w1.heap.size by omega)))
  have HS := Lib.hid hs
  have HBF := Lib.hid (((N1.out.trans ((hb2.below (by omega)).mono (by omega))).setCell (p := ⟨w.heap.size, 0, none⟩) (Nat.le_refl _) (.slice At n ct)).setCell (p := ⟨w.heap.size, 1, none⟩) (Nat.le_refl _) (.slice As m cs))
  clear hn hm hX2 hr2 ht hs hs2 hb2 HBR
  go_wp2_with fail
  exact bodyPost_ret (v := .agg #[.slice At n ct, .slice As m cs]) (by simp [results, Try.results14, go_sem, z0, z1]) rfl ⟨ts, s, At, As, ct, cs, by rw [HN.out, HM.out], HR.out.1.mono (Nat.zero_le _) (Nat.le_refl _), HR.out.2.mono (Nat.zero_le _) (Nat.le_refl _), HS.out, HBF.out⟩

theorem points_len (ok : Bool) (ts : List Int) (s : Sts) (h : ok = validB ts s) : (pointsB ok s).length ≤ 1000 ∧ ∀ d ∈ pointsB ok s, d.next.length ≤ maxLen := by
  subst h
  by_cases hv : validB ts s = true
  · obtain ⟨-, hok, hsz⟩ := valid_ok hv
    have hP := progPts_ok s hok
    have hn := s.npts_le
    have hl := hP.1
    simp only [pointsB, hv, if_true]
    refine ⟨by omega, fun d hd => ?_⟩
    obtain ⟨k, hk, rfl⟩ := List.getElem_of_mem hd
    unfold maxLen
    by_cases e : k < s.npts
    · obtain ⟨d, hd', hn'⟩ := hP.2.2 k e
      have := hn'.two
      rw [List.getElem?_eq_getElem hk] at hd'
      injection hd' with hd'
      rw [hd']; omega
    · have he := hP.2.1
      have hk' : k = s.npts := by omega
      subst hk'
      rw [List.getElem?_eq_getElem hk] at he
      injection he with he
      rw [he]; simp
  · simp [pointsB, hv]

theorem points_fact {ok : Bool} {s : Sts} {i : Nat} {d : Nd} (h : (pointsB ok s)[i]? = some d) : (d.op < 9 → d.next = [((i + 1 : Nat) : Int)]) ∧ (d.next.length = 2 → d.next[0]? = some ((i + 1 : Nat) : Int)) := by
  cases ok
  · simp [pointsB] at h
  · exact prog_fact h

set_option maxRecDepth 100000 in
set_option maxHeartbeats 2000000 in
theorem walk (n0 c0 : Nat) (A0 : Option Addr) (W : World) (hB : ByteV W W.heap.size n0 A0 c0) :
    Calls Try.prog 6 #[.slice A0 n0 c0] W fun e w' => e = .returned (.bool true) ∧ Below W.heap.size W w' := by
  have hnc := hB.1
  have hcm := hB.2.1
  unfold maxLen at hcm
  by_cases hn : 1048576 < n0
  · go_enter Try.func6, Try.ntmps6
    go_wp2_with fail
    go_ret
    exact ⟨rfl, Below.refl _ _⟩
  have e1 : decide (1048576 < (n0 : Int)) = false := decide_eq_false (by omega)
  have HD := Lib.hid (drawPointsOf_any n0 c0 A0 W hB)
  clear hB
  go_enter Try.func6, Try.ntmps6
  go_wp2_with fail
  refine HD.out.mono ?_
  rintro E w1 ⟨ts, s, At, As, ct, cs, rfl, ht1, hr1, hs1, hb1⟩
  have h1s := hb1.size
  obtain ⟨n, hn⟩ : ∃ n, ts.length = n := ⟨_, rfl⟩
  obtain ⟨m, hm⟩ : ∃ m, s.len = m := ⟨_, rfl⟩
  rw [hn, hm]
  have HN := Lib.hid hn
  have HM := Lib.hid hm
  have HSZ := Lib.hid hs1
  have hba := (Below.refl w1.heap.size w1).alloc (Nat.le_refl _) (.cells #[.slice At n ct, .slice As m cs] 26)
  have h2n := heap_alloc_new w1 (.cells #[.slice At n ct, .slice As m cs] 26)
  have h2z : w1.heap.size + 1 ≤ (w1.alloc (.cells #[.slice At n ct, .slice As m cs] 26)).heap.size := Nat.le_of_eq (by simp)
  obtain ⟨w2, hw2⟩ : ∃ w2, w1.alloc (.cells #[.slice At n ct, .slice As m cs] 26) = w2 := ⟨_, rfl⟩
  have T2 := Lib.hid (ht1.below hba hba.size)
  have R2 := Lib.hid (hr1.below hba hba.size)
  have B2 := Lib.hid (hb1.trans (hba.mono h1s))
  rw [hw2] at T2 R2 B2 h2n h2z
  have P2 := Lib.hid h2n
  clear hn hm hba hr1 ht1 hs1 hb1 h2n HD
  obtain ⟨PB, hPB⟩ : ∃ PB, w1.heap.size = PB := ⟨_, rfl⟩
  rw [hPB] at P2 h2z h1s
  obtain ⟨ns, hns⟩ : ∃ ns, pointsB (validB ts s) s = ns := ⟨_, rfl⟩
  have HLN := Lib.hid (points_len (validB ts s) ts s rfl)
  have HFA : Hid (∀ i d, ns[i]? = some d → (d.op < 9 → d.next = [((i + 1 : Nat) : Int)]) ∧ (d.next.length = 2 → d.next[0]? = some ((i + 1 : Nat) : Int))) := by rw [← hns]; exact fun i d h => points_fact h
  rw [hns] at HLN
  have HNS := Lib.hid hns
  clear hns
  have HC := implPointsOf_any ts s At As ct cs w2 T2.out R2.out
  rw [HN.out, HM.out, HNS.out] at HC
  replace HC := Lib.hid HC
  have p0 : w2.cell? ⟨PB, 0, none⟩ = some (.slice At n ct) := (cell_of_block P2.out 0).trans rfl
  have p1 : w2.cell? ⟨PB, 1, none⟩ = some (.slice As m cs) := (cell_of_block P2.out 1).trans rfl
  go_upto_region 4 with (fail)
  clear hw2 hPB
  go_wp2_with fail
  refine HC.out.mono ?_
  rintro E w3 ⟨v, us, rfl, hrow, hb3⟩
  have hz3 := hb3.size
  have V3 := Lib.hid hrow.reads
  have T3 := Lib.hid (T2.out.below hb3 hz3)
  have R3 := Lib.hid (R2.out.below hb3 hz3)
  have P3 := Lib.hid ((hb3.block PB (by omega)).trans P2.out)
  have B3 := Lib.hid (B2.out.trans (hb3.mono (by omega)))
  clear hrow hb3 HC p0 p1
  have HC := specPointsOf_any ts s At As ct cs w3 (by have := HSZ.out; omega) T3.out R3.out
  rw [HN.out, HM.out, HNS.out] at HC
  replace HC := Lib.hid HC
  have p0 : w3.cell? ⟨PB, 0, none⟩ = some (.slice At n ct) := (cell_of_block P3.out 0).trans rfl
  have p1 : w3.cell? ⟨PB, 1, none⟩ = some (.slice As m cs) := (cell_of_block P3.out 1).trans rfl
  go_wp2_with fail
  refine HC.out.mono ?_
  rintro E w4 ⟨v', rfl, hrow, hb4⟩
  have hz4 := hb4.size
  have W4 := Lib.hid (hrow.reads HLN.out.2)
  have V4 := Lib.hid (V3.out.below hb4)
  have B4 := Lib.hid (B3.out.trans (hb4.mono (by omega)))
  clear hrow hb4 HC p0 p1
  have HC := Lib.hid (bcPoints_any ns v v' w4 (by have := HLN.out.1; omega) V4.out W4.out)
  go_wp2_with fail
  refine HC.out.mono ?_
  rintro E w5 ⟨rfl, hb5⟩
  have hz5 := hb5.size
  have V5 := Lib.hid (V4.out.below hb5)
  have B5 := Lib.hid (B4.out.trans (hb5.mono (by omega)))
  clear hb5 HC
  obtain ⟨A, c, hv, hc1, hc2, -⟩ := id V5.out
  obtain ⟨q, hq⟩ : ∃ q, ns.length = q := ⟨_, rfl⟩
  rw [hq] at hv hc1
  subst hv
  unfold maxLen at hc2
  have HQ := Lib.hid hq
  have hq1 : q ≤ 1000 := by rw [← hq]; exact HLN.out.1
  clear hq
  go_wp2_with fail
  go_loopw [5] (fun i wr => ∃ k : Nat, k ≤ q ∧ i = .int .i64 k ∧ Below w5.heap.size w5 wr) (fun i _ => q - (intOf i).toNat)
  case atStart => exact ⟨0, Nat.zero_le _, rfl, Below.refl _ _⟩
  case round =>
    obtain ⟨k, hk, rfl, hb⟩ := hrel
    by_cases hlt : k < q
    · have hkd : k < ns.length := by rw [HQ.out]; exact hlt
      obtain ⟨A1, c1, e1, -, -, h4⟩ := V5.out.below hb
      injection e1 with e1 e1m e1'
      subst e1 e1'
      obtain ⟨g, rfl, hg, hc⟩ := h4 (by omega)
      obtain ⟨Au, cu, ⟨a0, -, -, -, a4⟩, hI⟩ := hc k _ (List.getElem?_eq_getElem hkd)
      have hf := HFA.out k _ (List.getElem?_eq_getElem hkd)
      generalize ns[k] = d at *
      obtain ⟨op, x, y, nn, nx⟩ := d
      simp only at a0 a4 hI hf
      clear hc h4 e1m
      have f1 : IntKind.i64.wrap ((k : Int) + 1) = (k : Int) + 1 := IntWalk.i64_in _ (by omega)
      have f0 : (((k : Int) + 1) != ((k : Int) + 1)) = false := by simp
      have hkq : (k : Int) < (q : Int) := by omega
      by_cases h9 : op < 9
      · have hnx := hf.1 h9
        subst hnx
        obtain ⟨b, v0, rfl, -, hbb, hx, hc0⟩ := hI.elem (k := 0) (by simp)
        simp only [List.getElem?_cons_zero, Option.some.injEq] at hx
        subst hx
        rw [Int.natCast_add, Int.natCast_one] at hc0
        have hc0' : wr.cell? b = some (.int .i64 ((k : Int) + 1)) := by rw [← hc0]; congr 1
        simp only [List.length_cons, List.length_nil, Nat.zero_add] at a4
        have h9' : decide (op < 9) = true := decide_eq_true h9
        have d1 : ((1 : Int) != 1) = false := by decide
        have d2 : ((1 : Int) == 2) = false := by decide
        clear hf hI
        go_wp2_with fail
        go_roundw
        case rel => exact ⟨k + 1, by omega, by go_num, hb⟩
        case measure => simp [intOf]; omega
      · have h9' : decide (op < 9) = false := decide_eq_false h9
        by_cases h2 : nx.length = 2
        · obtain ⟨b, v0, rfl, -, hbb, hx, hc0⟩ := hI.elem (k := 0) (by omega)
          have hx2 := hf.2 h2
          rw [hx] at hx2
          injection hx2 with hx2
          subst hx2
          rw [Int.natCast_add, Int.natCast_one] at hc0
          have hc0' : wr.cell? b = some (.int .i64 ((k : Int) + 1)) := by rw [← hc0]; congr 1
          rw [h2] at a4
          have d1 : ((2 : Int) != 1) = true := by decide
          have d2 : ((2 : Int) == 2) = true := by decide
          clear hf hI hx h2
          go_wp2_with fail
          go_roundw
          case rel => exact ⟨k + 1, by omega, by go_num, hb⟩
          case measure => simp [intOf]; omega
        · obtain ⟨nl, hnl⟩ : ∃ nl, nx.length = nl := ⟨_, rfl⟩
          rw [hnl] at a4 h2
          have d2 : ((nl : Int) == 2) = false := by simp; omega
          have d3 : (nl == 2) = false := by simp; omega
          clear hf hI hnl
          go_wp2_with fail
          go_roundw
          case rel => exact ⟨k + 1, by omega, by go_num, hb⟩
          case measure => simp [intOf]; omega
    · have hk' : k = q := by omega
      subst hk'
      have B7 := Lib.hid (B5.out.trans (hb.mono (by have := B5.out.size; omega)))
      go_wp2_with fail
      go_ret
      exact ⟨rfl, B7.out⟩

theorem cellsByte : Try.prog.cellsOf 5 = 1 := by kernel_rfl

theorem read_bytes {H : Type} {enc : TypeId × Value → H} {W : World} {spare : Nat → Bool} {held : Bool} {fuel : Nat} {v : Value} {x : DataW H × List MemPlace} (h : DataW.trod enc Try.prog W 0 spare held fuel 22 [v] = some x) :
    ∃ (n : Nat) (A : Option Addr) (c : Nat), v = .slice A n c ∧ ByteV W W.heap.size n A c := by
  rcases DataW.trod_slice Try.underlying22 h with ⟨hcs, _⟩ | ⟨a, len, cap, elems, rest, n, _, hcs, _, _, hl, hm, hlen, hel, _⟩
  · injection hcs with hcs _
    exact ⟨0, none, 0, hcs, by simp, by simp [maxLen], fun h => absurd h (by simp)⟩
  · injection hcs with hcs _
    have hex : ∀ i, i < len → ∃ z : Int, W.cell? (a.add i) = some (.int .u8 z) ∧ 0 ≤ z ∧ z ≤ 255 := by
      intro i hi
      have h1 := hel i hi
      rw [cellsByte, Nat.mul_one, List.getElem?_eq_getElem (by omega)] at h1
      obtain ⟨cs', hc, ht⟩ := Option.bind_eq_some_iff.1 h1
      obtain ⟨_, _, hat⟩ := World.cells?_some hc
      obtain ⟨z, rfl, _, hwf⟩ := DataW.trod_int Try.underlying5 ht
      have hz : 0 ≤ z ∧ z ≤ 255 := by simpa [Lit.wf, IntKind.min, IntKind.max, IntKind.signed, IntKind.bits] using hwf
      exact ⟨z, by simpa [Addr.add] using hat 0 (by omega), hz.1, hz.2⟩
    refine ⟨len, some a, cap, hcs, hl, hm, fun h0 => ⟨a, rfl, ?_, hex⟩⟩
    obtain ⟨z, hz, _⟩ := hex 0 h0
    have := World.block_lt_of_cell? W _ hz
    rwa [block_add] at this

theorem own : ownKnob Try.prog.godebug = none := by kernel_rfl
theorem laidOut : laidOutB Try.prog = true := by kernel_rfl

set_option maxRecDepth 100000 in
theorem lifted (os : Os) (started : os.Started) (H : Type) (enc : TypeId × Value → H) :
    ReturnsInHanded {} Try.checked os 6 .any (Rows.fnNextPointSpec.pre6 enc Try.prog Try.f6 Rows.fnNextPointRow.domain false) (Rows.fnNextPointSpec.post enc Try.prog Try.f6 false true false false) := by
  refine returnsInHanded_of_change (C := Try.checked) own started (by kernel_rfl) Try.func6
    (ChangeSpec.witness6 (enc := enc) (C := Try.checked) false ⟨#[], #[.slice none 0 0], []⟩ 8 (by kernel_rfl) (by kernel_rfl) (by kernel_rfl) (by kernel_rfl)) ?_
  intro W base args ds gs before hval0 hW hcnd _
  have hval : ∀ (j : Nat) t v, Try.f6.params[j]? = some t → args[j]? = some v → Value.okWide Try.prog W .any base t v := hval0
  have hW' := hW
  obtain ⟨p, q, hA0, hV, rfl, hfz, hnd⟩ := hW
  have hA : DataW.TrodAll enc Try.prog W 0 (fun _ => true) true Try.f6.params.toList args.toList ds p := hA0
  rw [Try.params6] at hA hval
  obtain ⟨v0, vs0, d0, ds0, p0, q0, hargs, rfl, rfl, h0, r0⟩ := trodAll_cons hA
  obtain ⟨rfl, rfl, rfl⟩ := trodAll_nil r0
  obtain rfl : args = #[v0] := by cases args; simp_all
  obtain ⟨rfl, rfl⟩ := trodVars_none hV
  have k0 := h0
  have lt0 : ∀ x ∈ p0, x.block < W.heap.size := by obtain ⟨m, hm⟩ := k0; exact DataW.trod_lt m _ _ _ hm
  obtain ⟨a0, len0, cap0, rfl⟩ := okWide_slice Try.underlying22 (hval 0 22 v0 rfl rfl)
  obtain ⟨fu0, hf0⟩ := h0
  obtain ⟨nb0, At0, ct0, hv0, hT0⟩ := read_bytes hf0
  injection hv0 with hv0 hv0' hv0''
  subst hv0 hv0' hv0''
  clear hA0 hval0
  simp only [List.append_nil] at hW'
  refine (walk _ _ _ W hT0).mono fun e W' ⟨he, bel⟩ => ?_
  subst he
  exact ⟨_, rfl, _, _, _, [], _, [], hW', trodAll_mk1 (shut_bool Try.underlying4 _), (trodAll_cons_mk (Below.trod laidOut (by kernel_rfl) (of_decide_eq_true (by kernel_rfl)) k0 bel lt0) trodAll_mk0), rfl, bel.frame _, fun h => by cases h⟩

theorem over : Rows.fnNextPointRow.holds Try.pinned (OpenSpec.ofChange Rows.fnNextPointSpec) :=
  OpenClaim.holds_of_wide 6 Try.f6 rfl rfl rfl rfl rfl rfl rfl ⟨rfl, rfl, rfl, rfl, rfl⟩ rfl rfl rfl rfl rfl (by kernel_rfl) Try.func6 (by kernel_rfl)
    (of_decide_eq_true (by kernel_rfl)) (by unfold Func.isWrapper; first | (rw [if_pos (by decide +kernel)]; kernel_rfl) | (rw [if_neg (by decide +kernel)]; exact ⟨rfl, rfl⟩))
    (fun os started H enc _ => lifted os started H enc)

theorem proved : Rows.FnNextPointSaid :=
  over
#print axioms proved
end Go.Proofs.Ytcaklhempmlpgaa.fnNextPoint
