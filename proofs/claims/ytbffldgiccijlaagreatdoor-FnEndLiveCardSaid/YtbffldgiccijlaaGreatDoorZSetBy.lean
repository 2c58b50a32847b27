/-
  SetBy of the model and of the program.
-/
import Derived.Test.YtbffldgiccijlaaGreatDoorZL2Xb
import Derived.Test.YtbffldgiccijlaaGreatDoorZFlwG
import Derived.Test.YtbffldgiccijlaaGreatDoorZL3G
import Derived.Test.YtbffldgiccijlaaGreatDoorZBits
import Derived.Test.YtbffldgiccijlaaGreatDoorZGrX
namespace Go.Proofs.YtbffldgiccijlaaGreatDoor
open Go.RowKit Go.Deep
set_option linter.unusedVariables false

/-- What SetBy answers. -/
def setByI (ok : Bool) (s : Sts) (a : Int) : Int := if ok = true ∧ 0 ≤ a ∧ a < ((progPts s).length : Int) then (((progPts s)[a.toNat]?).map setI).getD (-1) else -1

theorem setByI_no {ok : Bool} {s : Sts} {a : Int} (h : ¬ (ok = true ∧ 0 ≤ a ∧ a < ((progPts s).length : Int))) : setByI ok s a = -1 := if_neg h

theorem setByI_yes {s : Sts} {a : Nat} {d : Nd} (hd : (progPts s)[a]? = some d) : setByI true s a = setI d := by
  have ha := (List.getElem?_eq_some_iff.mp hd).1
  unfold setByI
  rw [if_pos ⟨rfl, by omega, by omega⟩]
  simp [hd]

theorem pRow_len' {w : World} {B : Nat} {v : Value} {ns : List Nd} (h : PRow w B v ns) : ∃ A c, v = .slice A ns.length c := by
  obtain ⟨xs, ho, _⟩ := h
  rcases ho.2 with ⟨hv, h0⟩ | ⟨g, cap, cur, hv, _⟩
  · exact ⟨none, 0, by rw [hv, h0]⟩
  · exact ⟨_, _, hv⟩

set_option maxRecDepth 100000 in
set_option maxHeartbeats 4000000 in
theorem specSetBy_any (ts : List Int) (s : Sts) (At As : Option Addr) (ct cs : Nat) (a : Int) (w : World) (hsz : s.size ≤ 1048576) (hT : IntsV w 0 w.heap.size ts At ct) (hR : RepV w 0 w.heap.size s As cs) :
    Calls Tryz.prog 25 #[.agg #[.slice At ts.length ct, .slice As s.len cs], .int .i64 a] w fun E w' => E = .returned (.int .i64 (setByI (validB ts s) s a)) ∧ Below w.heap.size w w' := by
  have hb0 := (Below.refl w.heap.size w).alloc (Nat.le_refl _) (.cells #[.slice At ts.length ct, .slice As s.len cs] 26)
  have hz0 : (w.alloc (.cells #[.slice At ts.length ct, .slice As s.len cs] 26)).heap.size = w.heap.size + 1 := by simp
  have hS := specPointsOf_any ts s At As ct cs _ hsz (hT.below hb0 (by simp)) (hR.below hb0 (by simp))
  have hnp := s.npts_le
  have hq0 : (pointsB (validB ts s) s).length ≤ 3000000 := by
    unfold pointsB
    split
    · rw [progPts_len]; omega
    · simp
  have HZ := Lib.hid hz0
  clear hz0
  by_cases hin : validB ts s = true ∧ 0 ≤ a ∧ a < ((progPts s).length : Int)
  · obtain ⟨hok, h0, h1⟩ := hin
    obtain ⟨k, rfl⟩ : ∃ k : Nat, a = (k : Int) := ⟨a.toNat, by omega⟩
    obtain ⟨d, hd⟩ : ∃ d, (progPts s)[k]? = some d := ⟨(progPts s)[k], List.getElem?_eq_getElem (by omega)⟩
    rw [hok, setByI_yes hd]
    have e0 : pointsB (validB ts s) s = progPts s := by simp [pointsB, hok]
    rw [e0] at hS hq0
    generalize progPts s = ds at hS hd h1 hq0
    have hd1 : decide ((k : Int) < 0) = false := decide_eq_false (by omega)
    have hd2 : decide ((ds.length : Int) ≤ (k : Int)) = false := decide_eq_false (by omega)
    have HDK := Lib.hid hd
    clear e0 h0 hok hd hR hT
    go_enter Tryz.func25, Tryz.ntmps25
    go_wp2_with fail
    refine hS.mono ?_
    rintro E w1 ⟨v, rfl, hP, hb1⟩
    rw [HZ.out] at hP hb1
    have hs1 := hb1.size
    rw [HZ.out] at hs1
    have hbw : Below w.heap.size w w1 := hb0.trans (hb1.mono (by omega))
    obtain ⟨g, cap, hv, hgB, hgl, -, -⟩ := hP.form (by omega)
    subst hv
    obtain ⟨u, ⟨c0, c1, c2, c3, c4⟩, hu⟩ := hP.cells HDK.out
    have hl3 := l3Set_any d.op d.x d.y d.n d.next u w1
    have hk2 : (k : Int) < (ds.length : Int) := h1
    clear hP hb1 hS hu
    go_wp2_with fail
    refine hl3.mono ?_
    rintro E w2 ⟨rfl, hb2⟩
    have hbW := hbw.trans (hb2.mono (by omega))
    clear hl3 hb2
    go_wp2_with fail
    go_ret
    exact ⟨rfl, hbW⟩
  · rw [setByI_no hin]
    have ha : a < 0 ∨ ((pointsB (validB ts s) s).length : Int) ≤ a := by
      by_cases h0 : a < 0
      · exact .inl h0
      · refine .inr ?_
        cases hv : validB ts s
        · simp [pointsB]; omega
        · rcases Int.lt_or_le a ((progPts s).length : Int) with h1 | h1
          · exact absurd ⟨hv, by omega, h1⟩ hin
          · simpa [pointsB] using h1
    generalize pointsB (validB ts s) s = ds at hS ha hq0
    clear hin
    by_cases h0 : a < 0
    · have hd1 : decide (a < 0) = true := decide_eq_true h0
      clear ha h0
      go_enter Tryz.func25, Tryz.ntmps25
      go_wp2_with fail
      refine hS.mono ?_
      rintro E w1 ⟨v, rfl, hP, hb1⟩
      rw [HZ.out] at hb1
      have hbw : Below w.heap.size w w1 := hb0.trans (hb1.mono (by omega))
      clear hP hb1 hS
      go_wp2_with fail
      go_ret
      exact ⟨rfl, hbw⟩
    · have hd1 : decide (a < 0) = false := decide_eq_false h0
      have hd2 : decide ((ds.length : Int) ≤ a) = true := decide_eq_true (by omega)
      clear ha h0
      go_enter Tryz.func25, Tryz.ntmps25
      go_wp2_with fail
      refine hS.mono ?_
      rintro E w1 ⟨v, rfl, hP, hb1⟩
      obtain ⟨Av, cv, hv⟩ := pRow_len' hP
      subst hv
      rw [HZ.out] at hb1
      have hbw : Below w.heap.size w w1 := hb0.trans (hb1.mono (by omega))
      clear hP hb1 hS
      go_wp2_with fail
      go_ret
      exact ⟨rfl, hbw⟩

theorem ctz_one {j : Nat} (h : j < 6) : Lib.ctz 64 (2 ^ j) = j := by
  have : j = 0 ∨ j = 1 ∨ j = 2 ∨ j = 3 ∨ j = 4 ∨ j = 5 := by omega
  rcases this with rfl | rfl | rfl | rfl | rfl | rfl <;> decide

set_option maxRecDepth 100000 in
set_option maxHeartbeats 4000000 in
theorem implSetBy_any (ts : List Int) (s : Sts) (At As : Option Addr) (ct cs : Nat) (a : Int) (w : World) (hT : IntsV w 0 w.heap.size ts At ct) (hR : RepV w 0 w.heap.size s As cs)
    (hTab : TabAt 0 Lib.deBruijn64tab w) (hg : 0 < w.heap.size) :
    Calls Tryz.prog 23 #[.agg #[.slice At ts.length ct, .slice As s.len cs], .int .i64 a] w fun E w' => E = .returned (.int .i64 (setByI (validB ts s) s a)) ∧ Below w.heap.size w w' := by
  have hb0 := (Below.refl w.heap.size w).alloc (Nat.le_refl _) (.cells #[.slice At ts.length ct, .slice As s.len cs] 26)
  have hz0 : (w.alloc (.cells #[.slice At ts.length ct, .slice As s.len cs] 26)).heap.size = w.heap.size + 1 := by simp
  have HZ := Lib.hid hz0
  cases hok : validB ts s
  · have hS := flowsOf_no ts s At As ct cs _ hok (hT.below hb0 (by simp)) (hR.below hb0 (by simp))
    rw [setByI_no (fun h => by cases h.1)]
    clear hz0 hok
    go_enter Tryz.func23, Tryz.ntmps23
    go_wp2_with fail
    refine hS.mono ?_
    rintro E w1 ⟨rfl, hb1⟩
    rw [HZ.out] at hb1
    have hb : Below w.heap.size w w1 := hb0.trans (hb1.mono (by omega))
    clear hb1 hS
    go_wp2_with fail
    go_ret
    exact ⟨rfl, by first | exact hb | exact hb.drew⟩
  · have hS := flowsOf_yes ts s At As ct cs _ hok (hT.below hb0 (by simp)) (hR.below hb0 (by simp))
    have hA := progPts_allTyped hok
    by_cases hin : 0 ≤ a ∧ a < ((progPts s).length : Int)
    · obtain ⟨h0, h1⟩ := hin
      obtain ⟨k, rfl⟩ : ∃ k : Nat, a = (k : Int) := ⟨a.toNat, by omega⟩
      obtain ⟨d, hd⟩ : ∃ d, (progPts s)[k]? = some d := ⟨(progPts s)[k], List.getElem?_eq_getElem (by omega)⟩
      rw [setByI_yes hd]
      have hef := effD_ok hA.1 (hA.2 k d hd)
      have hone := only_member hef.slt hef.sets
      generalize progPts s = ds at hS hd h1 hA
      have HDK := Lib.hid hd
      have hkl : k < ds.length := by omega
      have HA := Lib.hid hA
      clear hz0 hd hok hef hA hT hR
      go_enter Tryz.func23, Tryz.ntmps23
      go_wp2_with fail
      refine hS.mono ?_
      rintro E w1 ⟨C, F, hi, A2, c2, ah, bk, rfl, hF, hfl, hb1⟩
      rw [HZ.out] at hF hb1
      have hb : Below w.heap.size w w1 := hb0.trans (hb1.mono (by omega))
      have hbz := hb.size
      have hgc := hfl.grCell
      have hhas := has_yes C k ds w1 hfl.gr hkl
      have HFL := Lib.hid hfl
      have hk61 : k < 61 := by have := hfl.gr.le; omega
      clear hfl hb1 hS
      go_wp2_with fail
      refine hhas.mono ?_
      rintro E w2 ⟨rfl, hb2⟩
      have HF2 := Lib.hid (HFL.out.keep hb2)
      have hb' := hb.trans (hb2.mono hbz)
      have hbz' := hb'.size
      obtain ⟨e1, e2, e3, e4⟩ := HF2.out.effCell HDK.out
      have ki0 : (0 : Int) ≤ (k : Int) := by omega
      have ki1 : (k : Int) < 61 := by omega
      clear hhas hb2 hgc e1 e2 e3
      rcases hone with ⟨hz, hr⟩ | ⟨hr0, hr5, hz⟩
      · have hset : setI d = -1 := by
          unfold setI at hr ⊢
          split at hr
          · have := HA.out.2 k d HDK.out
            have hx := (effD_ok HA.out.1 this).xy
            omega
          · rename_i hne
            rw [if_neg hne]
        rw [hz] at e4
        go_wp2_with fail
        go_ret
        exact ⟨by rw [hset]; rfl, by first | exact hb' | exact hb'.drew⟩
      · obtain ⟨j, hj⟩ : ∃ j : Nat, setI d = (j : Int) := ⟨(setI d).toNat, by omega⟩
        have hj6 : j < 6 := by omega
        rw [hj] at hz
        rw [show ((j : Int)).toNat = j from by simp] at hz
        rw [hz] at e4
        have hp0 : 2 ^ j ≠ 0 := by have := Nat.one_le_two_pow (n := j); omega
        have hp : 2 ^ j < 18446744073709551616 := Nat.pow_lt_pow_right (by decide) (by omega : j < 64) (n := 64)
        have hlow := lowest_any (2 ^ j) hp hp0 w2 (tab_below hTab hg hb')
        rw [ctz_one hj6] at hlow
        generalize 2 ^ j = pj at *
        have hne : ((pj : Int) == 0) = false := by rw [beq_eq_false_iff_ne]; omega
        go_wp2_with fail
        refine hlow.mono ?_
        rintro E w3 ⟨rfl, hw3⟩
        subst hw3
        clear hlow
        go_wp2_with fail
        go_ret
        exact ⟨by rw [hj]; rfl, by first | exact hb' | exact hb'.drew⟩
    · have hr : a < 0 ∨ ((progPts s).length : Int) ≤ a := by
        by_cases h0 : a < 0
        · exact .inl h0
        · rcases Int.lt_or_le a ((progPts s).length : Int) with h1 | h1
          · exact absurd ⟨by omega, h1⟩ hin
          · exact .inr h1
      rw [setByI_no (fun h => hin h.2)]
      generalize progPts s = ds at hS hr hA
      clear hz0 hok hin hA hT hR
      go_enter Tryz.func23, Tryz.ntmps23
      go_wp2_with fail
      refine hS.mono ?_
      rintro E w1 ⟨C, F, hi, A2, c2, ah, bk, rfl, hF, hfl, hb1⟩
      rw [HZ.out] at hF hb1
      have hb : Below w.heap.size w w1 := hb0.trans (hb1.mono (by omega))
      have hbz := hb.size
      have hgc := hfl.grCell
      have hhas := has_no C a ds w1 hfl.gr hr
      clear hfl hb1 hS hr
      go_wp2_with fail
      refine hhas.mono ?_
      rintro E w2 ⟨rfl, hb2⟩
      have hb' := hb.trans (hb2.mono hbz)
      clear hhas hb2
      go_wp2_with fail
      go_ret
      exact ⟨rfl, by first | exact hb' | exact hb'.drew⟩

end Go.Proofs.YtbffldgiccijlaaGreatDoor
