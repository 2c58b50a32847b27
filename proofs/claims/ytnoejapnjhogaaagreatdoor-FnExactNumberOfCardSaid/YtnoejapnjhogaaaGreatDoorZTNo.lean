/-
  NumberOf, of the program and of the model.
-/
import Derived.Test.YtnoejapnjhogaaaGreatDoorZTSn
namespace Go.Proofs.YtnoejapnjhogaaaGreatDoor.tr
open Go.RowKit Go.Deep
set_option linter.unusedVariables false

/-- The only element of a list; 0 if there is none or are several. -/
def numI (l : List Int) : Int := if l.length = 1 then l.headD 0 else 0

/-- There is one element only. -/
def numB (l : List Int) : Bool := decide (l.length = 1)

theorem num_no {l : List Int} (h : l.length ≠ 1) : numI l = 0 ∧ numB l = false := by
  unfold numI numB
  rw [if_neg h]
  exact ⟨rfl, decide_eq_false h⟩

theorem num_yes (x : Int) : numI [x] = x ∧ numB [x] = true := ⟨rfl, rfl⟩

/-- What NumberOf answers. -/
def NumPost (ts : List Int) (s : Sts) (a v : Int) (w : World) (E : Ending) (w' : World) : Prop :=
  ∃ l, AnsAt (TrIn 2 ts v) (validB ts s) s a l ∧ E = .returned (.tuple #[.int .i64 (numI l), .bool (numB l)]) ∧ Below w.heap.size w w'

set_option maxRecDepth 100000 in
set_option maxHeartbeats 2000000 in
theorem specNumberOf_any (ts : List Int) (s : Sts) (At As : Option Addr) (ct cs : Nat) (a v : Int) (w : World) (hsz : s.size ≤ 1048576) (hT : IntsV w 0 w.heap.size ts At ct) (hR : RepV w 0 w.heap.size s As cs) :
    Calls Tryz.prog 24 #[.agg #[.slice At ts.length ct, .slice As s.len cs], .int .i64 a, .int .i64 v] w (NumPost ts s a v w) := by
  have hb0 := (Below.refl w.heap.size w).alloc (Nat.le_refl _) (.cells #[.slice At ts.length ct, .slice As s.len cs] 30)
  have hz0 : (w.alloc (.cells #[.slice At ts.length ct, .slice As s.len cs] 30)).heap.size = w.heap.size + 1 := by simp
  have hn := specNumbersOf_any ts s At As ct cs a v _ hsz (hT.below hb0 (by simp)) (hR.below hb0 (by simp))
  have HZ := Lib.hid hz0
  clear hz0 hT hR
  go_enter Tryz.func24, Tryz.ntmps24
  go_wp2_with fail
  refine hn.mono ?_
  rintro E w1 ⟨v', l, rfl, hrow, hans, hb1⟩
  rw [HZ.out] at hb1
  have HB1 := Lib.hid (hb0.trans (hb1.mono (by omega)))
  have HANS := Lib.hid hans
  have hlen := hans.length
  obtain ⟨Ar, cr, hvs, hI⟩ := hrow.ints
  subst hvs
  have hI0 := Lib.hid hI
  clear hn hb1 hb0 hans hrow hI
  by_cases h1 : l.length = 1
  · obtain ⟨x, rfl⟩ : ∃ x, l = [x] := List.length_eq_one_iff.mp h1
    obtain ⟨b, u, hb, -, -, hx, hc⟩ := hI0.out.elem (k := 0) (by simp)
    subst hb
    have hu : u = x := by simpa using hx.symm
    subst hu
    have HPO : Hid (∀ w', Below w.heap.size w w' → NumPost ts s a v w (.returned (.tuple #[.int .i64 u, .bool true])) w') := Lib.hid (fun w' hw => ⟨[u], HANS.out, rfl, hw⟩)
    have hc0 : w1.cell? b = some (.int .i64 u) := by
      have e : b.add 0 = b := by cases b; rfl
      rw [e] at hc
      exact hc
    clear hx h1 hlen hc
    go_wp2_with fail
    exact bodyPost_ret (by simp [results, Tryz.results24, go_sem]) rfl (HPO.out _ HB1.out)
  · have HPO : Hid (∀ w', Below w.heap.size w w' → NumPost ts s a v w (.returned (.tuple #[.int .i64 0, .bool false])) w') := Lib.hid (fun w' hw => ⟨l, HANS.out, by rw [(num_no h1).1, (num_no h1).2], hw⟩)
    obtain ⟨n, hn⟩ : ∃ n, n = l.length := ⟨_, rfl⟩
    rw [← hn] at h1 hlen ⊢
    clear hn hI0
    have hnb : ((n : Int) != 1) = true := by simp; omega
    have hnd : decide ((n : Int) = 1) = false := decide_eq_false (by omega)
    clear h1
    go_wp2_with fail
    exact bodyPost_ret (by simp [results, Tryz.results24, go_sem]) rfl (HPO.out _ HB1.out)

set_option maxRecDepth 100000 in
set_option maxHeartbeats 2000000 in
theorem implNumberOf_any (ts : List Int) (s : Sts) (At As : Option Addr) (ct cs : Nat) (a v : Int) (w : World) (hT : IntsV w 0 w.heap.size ts At ct) (hR : RepV w 0 w.heap.size s As cs) (hTab : TabAt 0 Lib.deBruijn64tab w) (hg : 0 < w.heap.size) :
    Calls Tryz.prog 25 #[.agg #[.slice At ts.length ct, .slice As s.len cs], .int .i64 a, .int .i64 v] w (NumPost ts s a v w) := by
  have hb0 := (Below.refl w.heap.size w).alloc (Nat.le_refl _) (.cells #[.slice At ts.length ct, .slice As s.len cs] 30)
  have hz0 : (w.alloc (.cells #[.slice At ts.length ct, .slice As s.len cs] 30)).heap.size = w.heap.size + 1 := by simp
  have hat : Calls Tryz.prog 45 #[.agg #[.slice At ts.length ct, .slice As s.len cs], .int .i64 a, .iface 69 (.agg #[])] (w.alloc (.cells #[.slice At ts.length ct, .slice As s.len cs] 30)) (AnsPer 2 ts s a (w.alloc (.cells #[.slice At ts.length ct, .slice As s.len cs] 30))) := answersAt_any 2 (by decide) ts s At As ct cs a _ (hT.below hb0 (by simp)) (hR.below hb0 (by simp)) (tab_below hTab hg hb0) (by rw [hz0]; omega)
  have HZ := Lib.hid hz0
  clear hz0 hT hR
  go_enter Tryz.func25, Tryz.ntmps25
  go_wp2_with fail
  refine hat.mono ?_
  rintro E w1 ⟨x, rfl, hx, hbit, hb1⟩
  rw [HZ.out] at hb1
  have HB1 := Lib.hid (hb0.trans (hb1.mono (by omega)))
  have HANS := Lib.hid (ans_of (v := v) hbit)
  have hof := of_any x v w1
  have hlt := ofZ_lt hx v
  clear hat hb1 hb0 hbit hx
  obtain ⟨y, hy⟩ : ∃ y, y = ofZ x v := ⟨_, rfl⟩
  rw [← hy] at hof HANS hlt
  clear hy
  go_wp2_with fail
  refine hof.mono ?_
  rintro E w2 ⟨rfl, hb2⟩
  have HB2 := Lib.hid (HB1.out.trans (hb2.mono HB1.out.size))
  clear hof hb2 HB1
  by_cases h0 : y = 0
  · subst h0
    have HPO : Hid (∀ w', Below w.heap.size w w' → NumPost ts s a v w (.returned (.tuple #[.int .i64 0, .bool false])) w') := Lib.hid (fun w' hw => ⟨_, HANS.out, by rw [intsOf_zero]; rfl, hw⟩)
    clear HANS
    go_wp2_with fail
    exact bodyPost_ret (by simp [results, Tryz.results25, go_sem]) rfl (HPO.out _ HB2.out)
  · have hst := bitsOf_step y h0 hlt
    have hwo := without_any y hlt h0 w2
    have hlo := lowest_any y hlt h0 w2 (tab_below hTab hg HB2.out)
    have hyb : ((y : Int) == 0) = false := by simp; omega
    have hyd : decide ((y : Int) = 0) = false := decide_eq_false (by omega)
    obtain ⟨y2, hy2⟩ : ∃ y2, y2 = y &&& (y - 1) := ⟨_, rfl⟩
    rw [← hy2] at hst hwo
    have hl2 : y2 < 18446744073709551616 := by rw [hy2]; exact Nat.lt_of_le_of_lt Nat.and_le_left hlt
    obtain ⟨c, hc⟩ : ∃ c, c = Lib.ctz 64 y := ⟨_, rfl⟩
    rw [← hc] at hst hlo
    by_cases h2 : y2 = 0
    · have HPO : Hid (∀ w', Below w.heap.size w w' → NumPost ts s a v w (.returned (.tuple #[.int .i64 (c : Int), .bool true])) w') := Lib.hid (fun w' hw => ⟨_, HANS.out, by unfold intsOf; rw [hst, h2, bitsOf_zero]; rfl, hw⟩)
      subst h2
      clear HANS hst hc hy2
      go_wp2_with fail
      refine hwo.mono ?_
      rintro E w3 ⟨rfl, hw3⟩
      subst hw3
      clear hwo
      go_wp2_with fail
      refine hlo.mono ?_
      rintro E w3 ⟨rfl, hw3⟩
      subst hw3
      clear hlo
      go_wp2_with fail
      exact bodyPost_ret (by simp [results, Tryz.results25, go_sem]) rfl (HPO.out _ HB2.out)
    · have hst2 := bitsOf_step y2 h2 hl2
      have HPO : Hid (∀ w', Below w.heap.size w w' → NumPost ts s a v w (.returned (.tuple #[.int .i64 0, .bool false])) w') := Lib.hid (fun w' hw => ⟨_, HANS.out, by
        have hne : (intsOf y).length ≠ 1 := by unfold intsOf; rw [hst, hst2]; simp
        rw [(num_no hne).1, (num_no hne).2], hw⟩)
      have h2b : ((y2 : Int) != 0) = true := by simp; omega
      have h2d : decide ((y2 : Int) = 0) = false := decide_eq_false (by omega)
      clear HANS hst hst2 hc hy2 hlo h2
      go_wp2_with fail
      refine hwo.mono ?_
      rintro E w3 ⟨rfl, hw3⟩
      subst hw3
      clear hwo
      go_wp2_with fail
      exact bodyPost_ret (by simp [results, Tryz.results25, go_sem]) rfl (HPO.out _ HB2.out)

end Go.Proofs.YtnoejapnjhogaaaGreatDoor.tr
