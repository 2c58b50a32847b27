/-
  UseOf of the model and of the program.
-/
import Derived.Test.YtbffldgiccijlaaGreatDoorZFlwG
import Derived.Test.YtbffldgiccijlaaGreatDoorZL3G
import Derived.Test.YtbffldgiccijlaaGreatDoorZMem
import Derived.Test.YtbffldgiccijlaaGreatDoorZGrX
import Derived.Test.YtbffldgiccijlaaGreatDoorZStmtY
import Derived.Deep.RegionHeld3
namespace Go.Proofs.YtbffldgiccijlaaGreatDoor
open Go.RowKit Go.Deep
set_option linter.unusedVariables false

/-- What UseOf answers. -/
def useOfI (ok : Bool) (ts : List Int) (s : Sts) (a v : Int) : Int := if ok = true ∧ 0 ≤ a ∧ a < ((progPts s).length : Int) ∧ 0 ≤ v ∧ v < (ts.length : Int) then (((progPts s)[a.toNat]?).map fun d => useI ts d v).getD 0 else 0

theorem useOfI_no {ok : Bool} {ts : List Int} {s : Sts} {a v : Int} (h : ¬ (ok = true ∧ 0 ≤ a ∧ a < ((progPts s).length : Int) ∧ 0 ≤ v ∧ v < (ts.length : Int))) : useOfI ok ts s a v = 0 := if_neg h

theorem useOfI_yes {ts : List Int} {s : Sts} {a v : Nat} {d : Nd} (hd : (progPts s)[a]? = some d) (hv : v < ts.length) : useOfI true ts s a v = useI ts d v := by
  have ha := (List.getElem?_eq_some_iff.mp hd).1
  unfold useOfI
  rw [if_pos ⟨rfl, by omega, by omega, by omega, by omega⟩]
  simp [hd]

theorem typesB_len {ts : List Int} (h : typesB ts = true) : ts.length ≤ 6 := by
  simp only [typesB, Bool.and_eq_true, decide_eq_true_eq] at h
  exact h.2

theorem typesB_ne {ts : List Int} (h : typesB ts = true) {u : Nat} (hu : u < ts.length) : tyAt ts (u : Int) ≠ 0 := by
  have := typesB_elem h (List.getElem?_eq_getElem hu)
  unfold tyAt
  rw [if_neg (by omega)]
  simp only [Int.toNat_natCast]
  rw [List.getD_eq_getElem?_getD, List.getElem?_eq_getElem hu]
  simp only [Option.getD_some]
  omega

theorem held_2u {B K : Nat} {w1 wo w' : World} {b0 b1 : Value} (hb : Below wo.heap.size wo w') (h : Below K w1 wo) (hK : K = w1.heap.size) (hB : B < w1.heap.size)
    (q0 : w1.cell? ⟨B, 0, none⟩ = some b0) (q1 : w1.cell? ⟨B, 1, none⟩ = some b1) :
    Below K w1 w' ∧ w'.cell? ⟨B, 0, none⟩ = some b0 ∧ w'.cell? ⟨B, 1, none⟩ = some b1 := by
  subst hK
  have hbb : Below w1.heap.size w1 w' := h.trans (hb.mono h.size)
  exact ⟨hbb, (hbb.cell hB).trans q0, (hbb.cell hB).trans q1⟩

set_option maxRecDepth 100000 in
set_option maxHeartbeats 4000000 in
theorem l3Point_any (ts : List Int) (s : Sts) (At As : Option Addr) (ct cs : Nat) (a v : Int) (w : World) (hsz : s.size ≤ 1048576) (hT : IntsV w 0 w.heap.size ts At ct) (hR : RepV w 0 w.heap.size s As cs) :
    Calls Tryz.prog 55 #[.agg #[.slice At ts.length ct, .slice As s.len cs], .int .i64 a, .int .i64 v] w fun E w' => E = .returned (.bool (decide (validB ts s = true ∧ 0 ≤ a ∧ a < ((progPts s).length : Int) ∧ 0 ≤ v ∧ v < (ts.length : Int)))) ∧ Below w.heap.size w w' := by
  have hb0 := (Below.refl w.heap.size w).alloc (Nat.le_refl _) (.cells #[.slice At ts.length ct, .slice As s.len cs] 26)
  have hz0 : (w.alloc (.cells #[.slice At ts.length ct, .slice As s.len cs] 26)).heap.size = w.heap.size + 1 := by simp
  have hB0 := heap_alloc_new w (.cells #[.slice At ts.length ct, .slice As s.len cs] 26)
  have hpv := specProgramValid_any ts s At As ct cs _ hsz (hT.below hb0 (by simp)) (hR.below hb0 (by simp))
  have HZ := Lib.hid hz0
  have HB := Lib.hid hB0
  have hTm := hT.2.1
  unfold maxLen at hTm
  have hTl := hT.1
  clear hz0 hB0
  cases hok : validB ts s
  · rw [hok] at hpv
    have hd : decide (false = true ∧ 0 ≤ a ∧ a < ((progPts s).length : Int) ∧ 0 ≤ v ∧ v < (ts.length : Int)) = false := decide_eq_false (fun h => by cases h.1)
    rw [hd]
    clear hd hok
    go_enter Tryz.func55, Tryz.ntmps55
    go_wp2_with fail
    refine hpv.mono ?_
    rintro E w1 ⟨rfl, hb1⟩
    rw [HZ.out] at hb1
    have hb : Below w.heap.size w w1 := hb0.trans (hb1.mono (by omega))
    clear hpv hb1
    go_wp2_with fail
    go_ret
    exact ⟨rfl, by first | exact hb | exact hb.drew⟩
  · rw [hok] at hpv
    by_cases h0 : 0 ≤ a
    · have d0 : decide ((0 : Int) ≤ a) = true := decide_eq_true h0
      have hlp0 : ∀ W : World, Below w.heap.size w W → Calls Tryz.prog 57 #[.agg #[.slice At ts.length ct, .slice As s.len cs]] W fun E w' => ∃ v, E = .returned v ∧ PRow w' W.heap.size v (progPts s) ∧ Below W.heap.size W w' := fun W hW => l2Points_any ts s At As ct cs W (by have := valid_size hok; omega) (hR.below hW hW.size)
      have HLP := Lib.hid hlp0
      clear hlp0 hT hR
      by_cases h1 : a < ((progPts s).length : Int)
      · have d1 : decide (a < ((progPts s).length : Int)) = true := decide_eq_true h1
        by_cases h2 : 0 ≤ v
        · have d2 : decide ((0 : Int) ≤ v) = true := decide_eq_true h2
          by_cases h3 : v < (ts.length : Int)
          · have hd : decide (true = true ∧ 0 ≤ a ∧ a < ((progPts s).length : Int) ∧ 0 ≤ v ∧ v < (ts.length : Int)) = true := decide_eq_true ⟨rfl, h0, h1, h2, h3⟩
            rw [hd]
            have d3 : decide (v < (ts.length : Int)) = true := decide_eq_true h3
            clear hd hok h0
            generalize progPts s = ds at *
            go_enter Tryz.func55, Tryz.ntmps55
            go_wp2_with fail
            refine hpv.mono ?_
            rintro E w1 ⟨rfl, hb1⟩
            rw [HZ.out] at hb1
            have hs1 := hb1.size
            rw [HZ.out] at hs1
            have hb : Below w.heap.size w w1 := hb0.trans (hb1.mono (by omega))
            have hB1 := (hb1.block w.heap.size (by omega)).trans HB.out
            have p0 : w1.cell? ⟨w.heap.size, 0, none⟩ = some (.slice At ts.length ct) := (cell_of_block hB1 0).trans rfl
            have p1 : w1.cell? ⟨w.heap.size, 1, none⟩ = some (.slice As s.len cs) := (cell_of_block hB1 1).trans rfl
            have hlp := HLP.out w1 hb
            clear hpv
            go_wp2_with fail
            refine hlp.mono ?_
            rintro E w2 ⟨u, rfl, hP, hb2⟩
            obtain ⟨Au, cu, hu⟩ := hP.slice
            subst hu
            have hbW := hb.trans (hb2.mono hb.size)
            have p2 : w2.cell? ⟨w.heap.size, 0, none⟩ = some (.slice At ts.length ct) := (hb2.cell (by simp; omega)).trans p0
            clear hlp hP hb2 hb1 hB1 p0 p1
            go_wp2_with fail
            go_ret
            exact ⟨rfl, by first | exact hbW | exact hbW.drew⟩
          · have hd : decide (true = true ∧ 0 ≤ a ∧ a < ((progPts s).length : Int) ∧ 0 ≤ v ∧ v < (ts.length : Int)) = false := decide_eq_false (fun h => h3 h.2.2.2.2)
            rw [hd]
            have d3 : decide (v < (ts.length : Int)) = false := decide_eq_false h3
            clear hd hok h0
            generalize progPts s = ds at *
            go_enter Tryz.func55, Tryz.ntmps55
            go_wp2_with fail
            refine hpv.mono ?_
            rintro E w1 ⟨rfl, hb1⟩
            rw [HZ.out] at hb1
            have hs1 := hb1.size
            rw [HZ.out] at hs1
            have hb : Below w.heap.size w w1 := hb0.trans (hb1.mono (by omega))
            have hB1 := (hb1.block w.heap.size (by omega)).trans HB.out
            have p0 : w1.cell? ⟨w.heap.size, 0, none⟩ = some (.slice At ts.length ct) := (cell_of_block hB1 0).trans rfl
            have p1 : w1.cell? ⟨w.heap.size, 1, none⟩ = some (.slice As s.len cs) := (cell_of_block hB1 1).trans rfl
            have hlp := HLP.out w1 hb
            clear hpv
            go_wp2_with fail
            refine hlp.mono ?_
            rintro E w2 ⟨u, rfl, hP, hb2⟩
            obtain ⟨Au, cu, hu⟩ := hP.slice
            subst hu
            have hbW := hb.trans (hb2.mono hb.size)
            have p2 : w2.cell? ⟨w.heap.size, 0, none⟩ = some (.slice At ts.length ct) := (hb2.cell (by simp; omega)).trans p0
            clear hlp hP hb2 hb1 hB1 p0 p1
            go_wp2_with fail
            go_ret
            exact ⟨rfl, by first | exact hbW | exact hbW.drew⟩
        · have hd : decide (true = true ∧ 0 ≤ a ∧ a < ((progPts s).length : Int) ∧ 0 ≤ v ∧ v < (ts.length : Int)) = false := decide_eq_false (fun h => h2 h.2.2.2.1)
          rw [hd]
          have d2 : decide ((0 : Int) ≤ v) = false := decide_eq_false h2
          clear hd hok h0
          generalize progPts s = ds at *
          go_enter Tryz.func55, Tryz.ntmps55
          go_wp2_with fail
          refine hpv.mono ?_
          rintro E w1 ⟨rfl, hb1⟩
          rw [HZ.out] at hb1
          have hs1 := hb1.size
          rw [HZ.out] at hs1
          have hb : Below w.heap.size w w1 := hb0.trans (hb1.mono (by omega))
          have hB1 := (hb1.block w.heap.size (by omega)).trans HB.out
          have p0 : w1.cell? ⟨w.heap.size, 0, none⟩ = some (.slice At ts.length ct) := (cell_of_block hB1 0).trans rfl
          have p1 : w1.cell? ⟨w.heap.size, 1, none⟩ = some (.slice As s.len cs) := (cell_of_block hB1 1).trans rfl
          have hlp := HLP.out w1 hb
          clear hpv
          go_wp2_with fail
          refine hlp.mono ?_
          rintro E w2 ⟨u, rfl, hP, hb2⟩
          obtain ⟨Au, cu, hu⟩ := hP.slice
          subst hu
          have hbW := hb.trans (hb2.mono hb.size)
          have p2 : w2.cell? ⟨w.heap.size, 0, none⟩ = some (.slice At ts.length ct) := (hb2.cell (by simp; omega)).trans p0
          clear hlp hP hb2 hb1 hB1 p0 p1
          go_wp2_with fail
          go_ret
          exact ⟨rfl, by first | exact hbW | exact hbW.drew⟩
      · have hd : decide (true = true ∧ 0 ≤ a ∧ a < ((progPts s).length : Int) ∧ 0 ≤ v ∧ v < (ts.length : Int)) = false := decide_eq_false (fun h => h1 h.2.2.1)
        rw [hd]
        have d1 : decide (a < ((progPts s).length : Int)) = false := decide_eq_false h1
        clear hd hok h0
        generalize progPts s = ds at *
        go_enter Tryz.func55, Tryz.ntmps55
        go_wp2_with fail
        refine hpv.mono ?_
        rintro E w1 ⟨rfl, hb1⟩
        rw [HZ.out] at hb1
        have hs1 := hb1.size
        rw [HZ.out] at hs1
        have hb : Below w.heap.size w w1 := hb0.trans (hb1.mono (by omega))
        have hB1 := (hb1.block w.heap.size (by omega)).trans HB.out
        have p0 : w1.cell? ⟨w.heap.size, 0, none⟩ = some (.slice At ts.length ct) := (cell_of_block hB1 0).trans rfl
        have p1 : w1.cell? ⟨w.heap.size, 1, none⟩ = some (.slice As s.len cs) := (cell_of_block hB1 1).trans rfl
        have hlp := HLP.out w1 hb
        clear hpv
        go_wp2_with fail
        refine hlp.mono ?_
        rintro E w2 ⟨u, rfl, hP, hb2⟩
        obtain ⟨Au, cu, hu⟩ := hP.slice
        subst hu
        have hbW := hb.trans (hb2.mono hb.size)
        have p2 : w2.cell? ⟨w.heap.size, 0, none⟩ = some (.slice At ts.length ct) := (hb2.cell (by simp; omega)).trans p0
        clear hlp hP hb2 hb1 hB1 p0 p1
        go_wp2_with fail
        go_ret
        exact ⟨rfl, by first | exact hbW | exact hbW.drew⟩
    · have d0 : decide ((0 : Int) ≤ a) = false := decide_eq_false h0
      have hd : decide (true = true ∧ 0 ≤ a ∧ a < ((progPts s).length : Int) ∧ 0 ≤ v ∧ v < (ts.length : Int)) = false := decide_eq_false (fun h => h0 h.2.1)
      rw [hd]
      clear hd hok h0
      go_enter Tryz.func55, Tryz.ntmps55
      go_wp2_with fail
      refine hpv.mono ?_
      rintro E w1 ⟨rfl, hb1⟩
      rw [HZ.out] at hb1
      have hb : Below w.heap.size w w1 := hb0.trans (hb1.mono (by omega))
      clear hpv hb1
      go_wp2_with fail
      go_ret
      exact ⟨rfl, by first | exact hb | exact hb.drew⟩

set_option maxRecDepth 100000 in
set_option maxHeartbeats 4000000 in
theorem specUseOf_any (ts : List Int) (s : Sts) (At As : Option Addr) (ct cs : Nat) (a v : Int) (w : World) (hsz : s.size ≤ 1048576) (hT : IntsV w 0 w.heap.size ts At ct) (hR : RepV w 0 w.heap.size s As cs) :
    Calls Tryz.prog 24 #[.agg #[.slice At ts.length ct, .slice As s.len cs], .int .i64 a, .int .i64 v] w fun E w' => E = .returned (.int .i64 (useOfI (validB ts s) ts s a v)) ∧ Below w.heap.size w w' := by
  have hb0 := (Below.refl w.heap.size w).alloc (Nat.le_refl _) (.cells #[.slice At ts.length ct, .slice As s.len cs] 26)
  have hz0 : (w.alloc (.cells #[.slice At ts.length ct, .slice As s.len cs] 26)).heap.size = w.heap.size + 1 := by simp
  have hB0 := heap_alloc_new w (.cells #[.slice At ts.length ct, .slice As s.len cs] 26)
  have hl3 := l3Point_any ts s At As ct cs a v _ hsz (hT.below hb0 (by simp)) (hR.below hb0 (by simp))
  have HZ := Lib.hid hz0
  have HB := Lib.hid hB0
  clear hz0 hB0
  by_cases hin : validB ts s = true ∧ 0 ≤ a ∧ a < ((progPts s).length : Int) ∧ 0 ≤ v ∧ v < (ts.length : Int)
  · obtain ⟨hok, h0, h1, h2, h3⟩ := id hin
    rw [decide_eq_true hin] at hl3
    obtain ⟨k, rfl⟩ : ∃ k : Nat, a = (k : Int) := ⟨a.toNat, by omega⟩
    obtain ⟨u, rfl⟩ : ∃ u : Nat, v = (u : Int) := ⟨v.toNat, by omega⟩
    obtain ⟨d, hd⟩ : ∃ d, (progPts s)[k]? = some d := ⟨(progPts s)[k], List.getElem?_eq_getElem (by omega)⟩
    rw [hok, useOfI_yes hd (by omega)]
    have h30 := valid_size hok
    have hul : u < ts.length := by omega
    have hlp0 : ∀ W : World, Below w.heap.size w W → Calls Tryz.prog 57 #[.agg #[.slice At ts.length ct, .slice As s.len cs]] W fun E w' => ∃ v, E = .returned v ∧ PRow w' W.heap.size v (progPts s) ∧ Below W.heap.size W w' := fun W hW => l2Points_any ts s At As ct cs W (by omega) (hR.below hW hW.size)
    generalize progPts s = ds at hlp0 hd h1
    have HLP := Lib.hid hlp0
    have HDK := Lib.hid hd
    have HT := Lib.hid hT
    clear hlp0 hd hin hok h0 hT hR
    go_enter Tryz.func24, Tryz.ntmps24
    go_wp2_with fail
    refine hl3.mono ?_
    rintro E w1 ⟨rfl, hb1⟩
    rw [HZ.out] at hb1
    have hs1 := hb1.size
    rw [HZ.out] at hs1
    have hb : Below w.heap.size w w1 := hb0.trans (hb1.mono (by omega))
    have hB1 := (hb1.block w.heap.size (by omega)).trans HB.out
    have p0 : w1.cell? ⟨w.heap.size, 0, none⟩ = some (.slice At ts.length ct) := (cell_of_block hB1 0).trans rfl
    have p1 : w1.cell? ⟨w.heap.size, 1, none⟩ = some (.slice As s.len cs) := (cell_of_block hB1 1).trans rfl
    have hlp := HLP.out w1 hb
    clear hl3 hlp hb1 hB1
    have hlt1 : w.heap.size < w1.heap.size := by omega
    have hds1 : 0 < ds.length := by omega
    go_wp2_with fail
    refine wp_region_held_drew (S := fun w' => Below w1.heap.size w1 w' ∧ w'.cell? ⟨w.heap.size, 0, none⟩ = some (.slice At ts.length ct) ∧ w'.cell? ⟨w.heap.size, 1, none⟩ = some (.slice As s.len cs)) (by kernel_rfl) ⟨(Below.refl w1.heap.size w1).drew, p0, p1⟩ (fun hHeld => ?_)
    refine wpAnyH_take (i := 0) (oi := { dst := some 12, op := Op.fieldAddr 26 (Operand.tmp 3) 0, type := 0, pos := "l3_flows.go:52", after := #[], guard := none }) (v := .pointer (some ⟨w.heap.size, 0, none⟩)) rfl (by kernel_rfl) (by kernel_rfl) (by kernel_rfl) (fun _ _ _ h => h) (Or.inl ⟨by rfl, fun w hSw => by go_simp⟩) hHeld ?_
    try simp only [Act.put, List.setIfInBounds_toArray, List.set_cons_zero, List.set_cons_succ]
    refine wpAnyH_take (i := 1) (oi := { dst := some 13, op := Op.load 23 (Operand.tmp 12), type := 23, pos := "l3_flows.go:52", after := #[{ on := 0, ground := Ground.data }], guard := none }) (v := .slice At ts.length ct) rfl (by kernel_rfl) (by kernel_rfl) (by kernel_rfl) (fun _ _ _ h => h) (Or.inl ⟨by rfl, fun w hSw => by have h8 := hSw.2.1; go_simp⟩) hHeld ?_
    try simp only [Act.put, List.setIfInBounds_toArray, List.set_cons_zero, List.set_cons_succ]
    refine wpAnyH_take (i := 2) (oi := { dst := some 14, op := Op.load 26 (Operand.tmp 3), type := 26, pos := "l3_flows.go:52", after := #[], guard := none }) (v := .agg #[.slice At ts.length ct, .slice As s.len cs]) rfl (by kernel_rfl) (by kernel_rfl) (by kernel_rfl) (fun _ _ _ h => h) (Or.inl ⟨by rfl, fun w hSw => by have h8 := hSw.2.1; have h9 := hSw.2.2; go_simp⟩) hHeld ?_
    try simp only [Act.put, List.setIfInBounds_toArray, List.set_cons_zero, List.set_cons_succ]
    refine wpAnyH_take (i := 4) (oi := { dst := some 16, op := Op.move (Operand.tmp 1), type := 3, pos := "l3_flows.go:52", after := #[], guard := none }) (v := .int .i64 (k : Int)) rfl (by kernel_rfl) (by kernel_rfl) (by kernel_rfl) (fun _ _ _ h => h) (Or.inl ⟨by rfl, fun w hSw => by go_simp⟩) hHeld ?_
    try simp only [Act.put, List.setIfInBounds_toArray, List.set_cons_zero, List.set_cons_succ]
    refine wpAnyH_take (i := 7) (oi := { dst := some 19, op := Op.move (Operand.tmp 2), type := 3, pos := "l3_flows.go:52", after := #[], guard := none }) (v := .int .i64 (u : Int)) rfl (by kernel_rfl) (by kernel_rfl) (by kernel_rfl) (fun _ _ _ h => h) (Or.inl ⟨by rfl, fun w hSw => by go_simp⟩) hHeld ?_
    try simp only [Act.put, List.setIfInBounds_toArray, List.set_cons_zero, List.set_cons_succ]
    refine wpAnyH_ready (rs := [3]) (by kernel_rfl) (by simp) ?_
    refine AllReadyH.cons (o := { dst := some 15, op := Op.call { callee := Callee.value (Operand.func 57), args := #[Operand.tmp 14], argTypes := #[26] }, type := 30, pos := "l3_flows.go:52", after := #[{ on := 2, ground := Ground.data }], guard := none }) rfl (fun K hK => ?_) AllReadyH.nil
    go_simp
    refine (HLP.out _ (hb.trans (hHeld.1.mono (by omega)))).mono ?_
    rintro E w5 ⟨vv, rfl, hP, hb5⟩
    obtain ⟨g, cap, hv5, hgB, hgl, -, -⟩ := hP.form hds1
    subst hv5
    obtain ⟨u5, ⟨c0, c1, c2, c3, c4⟩, hu5⟩ := hP.cells HDK.out
    refine hK.out _ _ (held_2u hb5 hHeld.1 rfl hlt1 p0 p1) (fun hHeld => ?_)
    clear hK K hP hu5
    refine wpAnyH_take (i := 5) (oi := { dst := some 17, op := Op.indexAddr 30 (Operand.tmp 15) (Operand.tmp 16), type := 0, pos := "l3_flows.go:52", after := #[{ on := 3, ground := Ground.data }, { on := 4, ground := Ground.data }], guard := none }) (v := .pointer (some ⟨g, k * 5, none⟩)) rfl (by kernel_rfl) (by kernel_rfl) (by kernel_rfl) (fun _ _ _ h => h) (Or.inl ⟨by rfl, fun w hSw => by go_simp⟩) hHeld ?_
    try simp only [Act.put, List.setIfInBounds_toArray, List.set_cons_zero, List.set_cons_succ]
    refine wpAnyH_ready (rs := [6]) (by kernel_rfl) (by simp) ?_
    refine AllReadyH.cons (o := { dst := some 18, op := Op.load 34 (Operand.tmp 17), type := 34, pos := "l3_flows.go:52", after := #[{ on := 5, ground := Ground.data }], guard := none }) rfl (fun K hK => ?_) AllReadyH.nil
    go_simp
    refine hK.out _ _ hHeld (fun hHeld => ?_)
    clear hK K
    refine wpAnyH_ready (rs := [8]) (by kernel_rfl) (by simp) ?_
    refine AllReadyH.cons (o := { dst := some 20, op := Op.call { callee := Callee.value (Operand.func 56), args := #[Operand.tmp 13, Operand.tmp 18, Operand.tmp 19], argTypes := #[23, 34, 3] }, type := 3, pos := "l3_flows.go:52", after := #[{ on := 1, ground := Ground.data }, { on := 6, ground := Ground.data }, { on := 7, ground := Ground.data }, { on := 3, ground := Ground.chain }], guard := none }) rfl (fun K hK => ?_) AllReadyH.nil
    go_simp
    refine (l3Use_any ts At ct d.op d.x d.y d.n d.next u5 u _ hul (HT.out.below (hb.trans (hHeld.1.mono (by omega))) (by have := hHeld.1.size; omega))).mono ?_
    rintro E w6 ⟨rfl, hb6⟩
    refine hK.out _ _ (held_2u hb6 hHeld.1 rfl hlt1 p0 p1) (fun hHeld => ?_)
    clear hK K
    refine wpAnyH_ready (rs := [9]) (by kernel_rfl) (by simp) ?_
    refine AllReadyH.cons (o := { dst := some 6, op := Op.assign (Operand.tmp 20), type := 3, pos := "l3_flows.go:52", after := #[{ on := 8, ground := Ground.data }, { on := 8, ground := Ground.chain }, { on := 0, ground := Ground.phase }, { on := 1, ground := Ground.phase }, { on := 2, ground := Ground.phase }, { on := 3, ground := Ground.phase }, { on := 4, ground := Ground.phase }, { on := 5, ground := Ground.phase }, { on := 6, ground := Ground.phase }, { on := 7, ground := Ground.phase }, { on := 8, ground := Ground.phase }], guard := none }) rfl (fun K hK => ?_) AllReadyH.nil
    go_simp
    refine hK.out _ _ hHeld (fun hHeld => ?_)
    clear hK K
    refine wpAnyH_done (by kernel_rfl) ?_ _
    have hbl := hHeld.1
    go_wp2_with fail
    go_ret
    exact ⟨rfl, hb.trans (hbl.mono (by omega))⟩
  · rw [useOfI_no hin]
    rw [decide_eq_false hin] at hl3
    clear hin
    go_enter Tryz.func24, Tryz.ntmps24
    go_wp2_with fail
    refine hl3.mono ?_
    rintro E w1 ⟨rfl, hb1⟩
    rw [HZ.out] at hb1
    have hb : Below w.heap.size w w1 := hb0.trans (hb1.mono (by omega))
    clear hl3 hb1
    go_wp2_with fail
    go_ret
    exact ⟨rfl, by first | exact hb | exact hb.drew⟩

set_option maxRecDepth 100000 in
set_option maxHeartbeats 4000000 in
theorem implUseOf_any (ts : List Int) (s : Sts) (At As : Option Addr) (ct cs : Nat) (a v : Int) (w : World) (hT : IntsV w 0 w.heap.size ts At ct) (hR : RepV w 0 w.heap.size s As cs) :
    Calls Tryz.prog 22 #[.agg #[.slice At ts.length ct, .slice As s.len cs], .int .i64 a, .int .i64 v] w fun E w' => E = .returned (.int .i64 (useOfI (validB ts s) ts s a v)) ∧ Below w.heap.size w w' := by
  have hb0 := (Below.refl w.heap.size w).alloc (Nat.le_refl _) (.cells #[.slice At ts.length ct, .slice As s.len cs] 26)
  have hz0 : (w.alloc (.cells #[.slice At ts.length ct, .slice As s.len cs] 26)).heap.size = w.heap.size + 1 := by simp
  have HZ := Lib.hid hz0
  cases hok : validB ts s
  · have hS := flowsOf_no ts s At As ct cs _ hok (hT.below hb0 (by simp)) (hR.below hb0 (by simp))
    rw [useOfI_no (fun h => by cases h.1)]
    clear hz0 hok
    go_enter Tryz.func22, Tryz.ntmps22
    go_wp2_with fail
    refine hS.mono ?_
    rintro E w1 ⟨rfl, hb1⟩
    rw [HZ.out] at hb1
    have hb : Below w.heap.size w w1 := hb0.trans (hb1.mono (by omega))
    clear hb1 hS
    go_wp2_with fail
    go_ret
    exact ⟨rfl, by first | exact hb | exact hb.drew⟩
  · have hS := flowsOf_yes ts s At As ct cs _ hok (hT.below hb0 (by simp)) (hR.below hb0 (by simp))
    have hA := progPts_allTyped hok
    by_cases hin : 0 ≤ a ∧ a < ((progPts s).length : Int)
    · obtain ⟨h0, h1⟩ := hin
      obtain ⟨k, rfl⟩ : ∃ k : Nat, a = (k : Int) := ⟨a.toNat, by omega⟩
      obtain ⟨d, hd⟩ : ∃ d, (progPts s)[k]? = some d := ⟨(progPts s)[k], List.getElem?_eq_getElem (by omega)⟩
      have hef := effD_ok hA.1 (hA.2 k d hd)
      have hu0 : useOfI true ts s (k : Int) v = if 0 ≤ v ∧ v < (ts.length : Int) then useI ts d v else 0 := by
        by_cases hv : 0 ≤ v ∧ v < (ts.length : Int)
        · obtain ⟨u, rfl⟩ : ∃ u : Nat, v = (u : Int) := ⟨v.toNat, by omega⟩
          rw [if_pos hv, useOfI_yes hd (by omega)]
        · rw [if_neg hv, useOfI_no (fun h => hv h.2.2.2)]
      rw [hu0]
      obtain ⟨X, hX⟩ : ∃ X, (if 0 ≤ v ∧ v < (ts.length : Int) then useI ts d v else 0) = X := ⟨_, rfl⟩
      rw [hX]
      have HX := Lib.hid hX
      have hty : typesB ts = true := (valid_ok hok).1
      generalize progPts s = ds at hS hd h1 hA
      have HDK := Lib.hid hd
      have hkl : k < ds.length := by omega
      have HEF := Lib.hid hef
      clear hz0 hd hok hef hA hT hR hu0
      go_enter Tryz.func22, Tryz.ntmps22
      go_wp2_with fail
      refine hS.mono ?_
      rintro E w1 ⟨C, F, hi, A2, c2, ah, bk, rfl, hF, hfl, hb1⟩
      rw [HZ.out] at hF hb1
      have hb : Below w.heap.size w w1 := hb0.trans (hb1.mono (by omega))
      have hbz := hb.size
      have hgc := hfl.grCell
      have hhas := has_yes C k ds w1 hfl.gr hkl
      have HFL := Lib.hid hfl
      have hk61 : k < 61 := by have := hfl.gr.le; omega
      clear hfl hb1 hS
      go_wp2_with fail
      refine hhas.mono ?_
      rintro E w2 ⟨rfl, hb2⟩
      have HF2 := Lib.hid (HFL.out.keep hb2)
      have hb' := hb.trans (hb2.mono hbz)
      have hbz' := hb'.size
      have hsc := HF2.out.scCell
      have hto := typeOf_any ts A2 c2 v w2 HF2.out.scope
      clear hhas hb2 hgc
      go_wp2_with fail
      refine hto.mono ?_
      rintro E w3 ⟨rfl, rfl⟩
      have hbF := hb'
      clear hto
      by_cases hv : 0 ≤ v ∧ v < (ts.length : Int)
      · obtain ⟨u, rfl⟩ : ∃ u : Nat, v = (u : Int) := ⟨v.toNat, by omega⟩
        have hul : u < ts.length := by omega
        have hu6 : u < 64 := by
          have := typesB_len hty
          omega
        have hty0 : (tyAt ts (u : Int) == 0) = false := by
          have := typesB_ne hty hul
          simpa using this
        obtain ⟨e1, e2, e3, e4⟩ := HF2.out.effCell HDK.out
        have ki0 : (0 : Int) ≤ (k : Int) := by omega
        have ki1 : (k : Int) < 61 := by omega
        have hR := bitHas_any (effD ts d).r u (by have := HEF.out.rlt; omega) hu6
        have hTk := bitHas_any (effD ts d).t u (by have := HEF.out.tlt; omega) hu6
        have hC := bitHas_any (effD ts d).c u (by have := HEF.out.clt; omega) hu6
        have br := HEF.out.reads u hu6
        have bt := HEF.out.takes u hu6
        have bc := HEF.out.reach u hu6
        have HV := Lib.hid hv
        clear hv hsc
        rcases useI_range ts d (u : Int) with hu | hu | hu | hu
        · have xr : (effD ts d).r.testBit u = false := by cases h9 : (effD ts d).r.testBit u; rfl; have := br.mp h9; omega
          have xt : (effD ts d).t.testBit u = false := by cases h9 : (effD ts d).t.testBit u; rfl; have := bt.mp h9; omega
          have xc : (effD ts d).c.testBit u = false := by cases h9 : (effD ts d).c.testBit u; rfl; have := bc.mp h9; omega
          rw [xr] at hR
          rw [xt] at hTk
          rw [xc] at hC
          have HU : Hid (useI ts d (u : Int) = 0) := hu
          clear hu br bt bc
          go_wp2_with fail
          refine (hR _).mono ?_
          rintro E w4 ⟨rfl, hw4⟩
          subst hw4
          go_wp2_with fail
          refine (hTk _).mono ?_
          rintro E w4 ⟨rfl, hw4⟩
          subst hw4
          go_wp2_with fail
          refine (hC _).mono ?_
          rintro E w4 ⟨rfl, hw4⟩
          subst hw4
          go_wp2_with fail
          go_ret
          exact ⟨by rw [← HX.out, if_pos HV.out, HU.out]; rfl, by first | exact hbF | exact hbF.drew | exact hbF.alloc hbz' _ | exact (hbF.alloc hbz' _).drew⟩
        · have xr : (effD ts d).r.testBit u = true := br.mpr hu
          rw [xr] at hR
          have HU : Hid (useI ts d (u : Int) = 1) := hu
          clear hu br bt bc
          go_wp2_with fail
          refine (hR _).mono ?_
          rintro E w4 ⟨rfl, hw4⟩
          subst hw4
          go_wp2_with fail
          go_ret
          exact ⟨by rw [← HX.out, if_pos HV.out, HU.out]; rfl, by first | exact hbF | exact hbF.drew | exact hbF.alloc hbz' _ | exact (hbF.alloc hbz' _).drew⟩
        · have xr : (effD ts d).r.testBit u = false := by cases h9 : (effD ts d).r.testBit u; rfl; have := br.mp h9; omega
          have xt : (effD ts d).t.testBit u = true := bt.mpr hu
          rw [xr] at hR
          rw [xt] at hTk
          have HU : Hid (useI ts d (u : Int) = 2) := hu
          clear hu br bt bc
          go_wp2_with fail
          refine (hR _).mono ?_
          rintro E w4 ⟨rfl, hw4⟩
          subst hw4
          go_wp2_with fail
          refine (hTk _).mono ?_
          rintro E w4 ⟨rfl, hw4⟩
          subst hw4
          go_wp2_with fail
          go_ret
          exact ⟨by rw [← HX.out, if_pos HV.out, HU.out]; rfl, by first | exact hbF | exact hbF.drew | exact hbF.alloc hbz' _ | exact (hbF.alloc hbz' _).drew⟩
        · have xr : (effD ts d).r.testBit u = false := by cases h9 : (effD ts d).r.testBit u; rfl; have := br.mp h9; omega
          have xt : (effD ts d).t.testBit u = false := by cases h9 : (effD ts d).t.testBit u; rfl; have := bt.mp h9; omega
          have xc : (effD ts d).c.testBit u = true := bc.mpr hu
          rw [xr] at hR
          rw [xt] at hTk
          rw [xc] at hC
          have HU : Hid (useI ts d (u : Int) = 3) := hu
          clear hu br bt bc
          go_wp2_with fail
          refine (hR _).mono ?_
          rintro E w4 ⟨rfl, hw4⟩
          subst hw4
          go_wp2_with fail
          refine (hTk _).mono ?_
          rintro E w4 ⟨rfl, hw4⟩
          subst hw4
          go_wp2_with fail
          refine (hC _).mono ?_
          rintro E w4 ⟨rfl, hw4⟩
          subst hw4
          go_wp2_with fail
          go_ret
          exact ⟨by rw [← HX.out, if_pos HV.out, HU.out]; rfl, by first | exact hbF | exact hbF.drew | exact hbF.alloc hbz' _ | exact (hbF.alloc hbz' _).drew⟩
      · have h0 : tyAt ts v = 0 := by
          cases Classical.em (tyAt ts v = 0) with
          | inl h => exact h
          | inr h => exact absurd (tyAt_lt h) hv
        have HV := Lib.hid hv
        rw [h0]
        clear hv h0 hsc
        go_wp2_with fail
        go_ret
        exact ⟨by rw [← HX.out, if_neg HV.out]; rfl, by first | exact hbF | exact hbF.drew⟩
    · have hr : a < 0 ∨ ((progPts s).length : Int) ≤ a := by
        by_cases h0 : a < 0
        · exact .inl h0
        · rcases Int.lt_or_le a ((progPts s).length : Int) with h1 | h1
          · exact absurd ⟨by omega, h1⟩ hin
          · exact .inr h1
      rw [useOfI_no (fun h => hin ⟨h.2.1, h.2.2.1⟩)]
      generalize progPts s = ds at hS hr hA
      clear hz0 hok hin hA hT hR
      go_enter Tryz.func22, Tryz.ntmps22
      go_wp2_with fail
      refine hS.mono ?_
      rintro E w1 ⟨C, F, hi, A2, c2, ah, bk, rfl, hF, hfl, hb1⟩
      rw [HZ.out] at hF hb1
      have hb : Below w.heap.size w w1 := hb0.trans (hb1.mono (by omega))
      have hbz := hb.size
      have hgc := hfl.grCell
      have hhas := has_no C a ds w1 hfl.gr hr
      clear hfl hb1 hS hr
      go_wp2_with fail
      refine hhas.mono ?_
      rintro E w2 ⟨rfl, hb2⟩
      have hb' := hb.trans (hb2.mono hbz)
      clear hhas hb2
      go_wp2_with fail
      go_ret
      exact ⟨rfl, by first | exact hb' | exact hb'.drew⟩

end Go.Proofs.YtbffldgiccijlaaGreatDoor
