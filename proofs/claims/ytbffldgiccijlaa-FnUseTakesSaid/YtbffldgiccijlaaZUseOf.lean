/-
  UseOf of the model and of the program.
-/
import Derived.Test.YtbffldgiccijlaaZUsG
import Derived.Test.YtbffldgiccijlaaZL3G
import Derived.Test.YtbffldgiccijlaaZStmtY
import Derived.Deep.RegionHeld3
namespace Go.Proofs.Ytbffldgiccijlaa
open Go.RowKit Go.Deep
set_option linter.unusedVariables false
set_option maxRecDepth 100000 in
set_option maxHeartbeats 4000000 in
theorem l3Point_any (ts : List Int) (s : Sts) (At As : Option Addr) (ct cs : Nat) (a v : Int) (w : World) (hsz : s.size ≤ 1048576) (hT : IntsV w 0 w.heap.size ts At ct) (hR : RepV w 0 w.heap.size s As cs) :
    Calls Try.prog 15 #[.agg #[.slice At ts.length ct, .slice As s.len cs], .int .i64 a, .int .i64 v] w fun E w' => E = .returned (.bool (decide (validB ts s = true ∧ 0 ≤ a ∧ a < ((progPts s).length : Int) ∧ 0 ≤ v ∧ v < (ts.length : Int)))) ∧ Below w.heap.size w w' := by
  have hb0 := (Below.refl w.heap.size w).alloc (Nat.le_refl _) (.cells #[.slice At ts.length ct, .slice As s.len cs] 26)
  have hz0 : (w.alloc (.cells #[.slice At ts.length ct, .slice As s.len cs] 26)).heap.size = w.heap.size + 1 := by simp
  have hB0 := heap_alloc_new w (.cells #[.slice At ts.length ct, .slice As s.len cs] 26)
  have hpv := specProgramValid_any ts s At As ct cs _ hsz (hT.below hb0 (by simp)) (hR.below hb0 (by simp))
  have HZ := Lib.hid hz0
  have HB := Lib.hid hB0
  have hTm := hT.2.1
  unfold maxLen at hTm
  have hTl := hT.1
  clear hz0 hB0
  cases hok : validB ts s
  · rw [hok] at hpv
    have hd : decide (false = true ∧ 0 ≤ a ∧ a < ((progPts s).length : Int) ∧ 0 ≤ v ∧ v < (ts.length : Int)) = false := decide_eq_false (fun h => by cases h.1)
    rw [hd]
    clear hd hok
    go_enter Try.func15, Try.ntmps15
    go_wp2_with fail
    refine hpv.mono ?_
    rintro E w1 ⟨rfl, hb1⟩
    rw [HZ.out] at hb1
    have hb : Below w.heap.size w w1 := hb0.trans (hb1.mono (by omega))
    clear hpv hb1
    go_wp2_with fail
    go_ret
    exact ⟨rfl, by first | exact hb | exact hb.drew⟩
  · rw [hok] at hpv
    by_cases h0 : 0 ≤ a
    · have d0 : decide ((0 : Int) ≤ a) = true := decide_eq_true h0
      have hlp0 : ∀ W : World, Below w.heap.size w W → Calls Try.prog 17 #[.agg #[.slice At ts.length ct, .slice As s.len cs]] W fun E w' => ∃ v, E = .returned v ∧ PRow w' W.heap.size v (progPts s) ∧ Below W.heap.size W w' := fun W hW => l2Points_any ts s At As ct cs W (by have := valid_size hok; omega) (hR.below hW hW.size)
      have HLP := Lib.hid hlp0
      clear hlp0 hT hR
      by_cases h1 : a < ((progPts s).length : Int)
      · have d1 : decide (a < ((progPts s).length : Int)) = true := decide_eq_true h1
        by_cases h2 : 0 ≤ v
        · have d2 : decide ((0 : Int) ≤ v) = true := decide_eq_true h2
          by_cases h3 : v < (ts.length : Int)
          · have hd : decide (true = true ∧ 0 ≤ a ∧ a < ((progPts s).length : Int) ∧ 0 ≤ v ∧ v < (ts.length : Int)) = true := decide_eq_true ⟨rfl, h0, h1, h2, h3⟩
            rw [hd]
            have d3 : decide (v < (ts.length : Int)) = true := decide_eq_true h3
            clear hd hok h0
            generalize progPts s = ds at *
            go_enter Try.func15, Try.ntmps15
            go_wp2_with fail
            refine hpv.mono ?_
            rintro E w1 ⟨rfl, hb1⟩
            rw [HZ.out] at hb1
            have hs1 := hb1.size
            rw [HZ.out] at hs1
            have hb : Below w.heap.size w w1 := hb0.trans (hb1.mono (by omega))
            have hB1 := (hb1.block w.heap.size (by omega)).trans HB.out
            have p0 : w1.cell? ⟨w.heap.size, 0, none⟩ = some (.slice At ts.length ct) := (cell_of_block hB1 0).trans rfl
            have p1 : w1.cell? ⟨w.heap.size, 1, none⟩ = some (.slice As s.len cs) := (cell_of_block hB1 1).trans rfl
            have hlp := HLP.out w1 hb
            clear hpv
            go_wp2_with fail
            refine hlp.mono ?_
            rintro E w2 ⟨u, rfl, hP, hb2⟩
            obtain ⟨Au, cu, hu⟩ := hP.slice
            subst hu
            have hbW := hb.trans (hb2.mono hb.size)
            have p2 : w2.cell? ⟨w.heap.size, 0, none⟩ = some (.slice At ts.length ct) := (hb2.cell (by simp; omega)).trans p0
            clear hlp hP hb2 hb1 hB1 p0 p1
            go_wp2_with fail
            go_ret
            exact ⟨rfl, by first | exact hbW | exact hbW.drew⟩
          · have hd : decide (true = true ∧ 0 ≤ a ∧ a < ((progPts s).length : Int) ∧ 0 ≤ v ∧ v < (ts.length : Int)) = false := decide_eq_false (fun h => h3 h.2.2.2.2)
            rw [hd]
            have d3 : decide (v < (ts.length : Int)) = false := decide_eq_false h3
            clear hd hok h0
            generalize progPts s = ds at *
            go_enter Try.func15, Try.ntmps15
            go_wp2_with fail
            refine hpv.mono ?_
            rintro E w1 ⟨rfl, hb1⟩
            rw [HZ.out] at hb1
            have hs1 := hb1.size
            rw [HZ.out] at hs1
            have hb : Below w.heap.size w w1 := hb0.trans (hb1.mono (by omega))
            have hB1 := (hb1.block w.heap.size (by omega)).trans HB.out
            have p0 : w1.cell? ⟨w.heap.size, 0, none⟩ = some (.slice At ts.length ct) := (cell_of_block hB1 0).trans rfl
            have p1 : w1.cell? ⟨w.heap.size, 1, none⟩ = some (.slice As s.len cs) := (cell_of_block hB1 1).trans rfl
            have hlp := HLP.out w1 hb
            clear hpv
            go_wp2_with fail
            refine hlp.mono ?_
            rintro E w2 ⟨u, rfl, hP, hb2⟩
            obtain ⟨Au, cu, hu⟩ := hP.slice
            subst hu
            have hbW := hb.trans (hb2.mono hb.size)
            have p2 : w2.cell? ⟨w.heap.size, 0, none⟩ = some (.slice At ts.length ct) := (hb2.cell (by simp; omega)).trans p0
            clear hlp hP hb2 hb1 hB1 p0 p1
            go_wp2_with fail
            go_ret
            exact ⟨rfl, by first | exact hbW | exact hbW.drew⟩
        · have hd : decide (true = true ∧ 0 ≤ a ∧ a < ((progPts s).length : Int) ∧ 0 ≤ v ∧ v < (ts.length : Int)) = false := decide_eq_false (fun h => h2 h.2.2.2.1)
          rw [hd]
          have d2 : decide ((0 : Int) ≤ v) = false := decide_eq_false h2
          clear hd hok h0
          generalize progPts s = ds at *
          go_enter Try.func15, Try.ntmps15
          go_wp2_with fail
          refine hpv.mono ?_
          rintro E w1 ⟨rfl, hb1⟩
          rw [HZ.out] at hb1
          have hs1 := hb1.size
          rw [HZ.out] at hs1
          have hb : Below w.heap.size w w1 := hb0.trans (hb1.mono (by omega))
          have hB1 := (hb1.block w.heap.size (by omega)).trans HB.out
          have p0 : w1.cell? ⟨w.heap.size, 0, none⟩ = some (.slice At ts.length ct) := (cell_of_block hB1 0).trans rfl
          have p1 : w1.cell? ⟨w.heap.size, 1, none⟩ = some (.slice As s.len cs) := (cell_of_block hB1 1).trans rfl
          have hlp := HLP.out w1 hb
          clear hpv
          go_wp2_with fail
          refine hlp.mono ?_
          rintro E w2 ⟨u, rfl, hP, hb2⟩
          obtain ⟨Au, cu, hu⟩ := hP.slice
          subst hu
          have hbW := hb.trans (hb2.mono hb.size)
          have p2 : w2.cell? ⟨w.heap.size, 0, none⟩ = some (.slice At ts.length ct) := (hb2.cell (by simp; omega)).trans p0
          clear hlp hP hb2 hb1 hB1 p0 p1
          go_wp2_with fail
          go_ret
          exact ⟨rfl, by first | exact hbW | exact hbW.drew⟩
      · have hd : decide (true = true ∧ 0 ≤ a ∧ a < ((progPts s).length : Int) ∧ 0 ≤ v ∧ v < (ts.length : Int)) = false := decide_eq_false (fun h => h1 h.2.2.1)
        rw [hd]
        have d1 : decide (a < ((progPts s).length : Int)) = false := decide_eq_false h1
        clear hd hok h0
        generalize progPts s = ds at *
        go_enter Try.func15, Try.ntmps15
        go_wp2_with fail
        refine hpv.mono ?_
        rintro E w1 ⟨rfl, hb1⟩
        rw [HZ.out] at hb1
        have hs1 := hb1.size
        rw [HZ.out] at hs1
        have hb : Below w.heap.size w w1 := hb0.trans (hb1.mono (by omega))
        have hB1 := (hb1.block w.heap.size (by omega)).trans HB.out
        have p0 : w1.cell? ⟨w.heap.size, 0, none⟩ = some (.slice At ts.length ct) := (cell_of_block hB1 0).trans rfl
        have p1 : w1.cell? ⟨w.heap.size, 1, none⟩ = some (.slice As s.len cs) := (cell_of_block hB1 1).trans rfl
        have hlp := HLP.out w1 hb
        clear hpv
        go_wp2_with fail
        refine hlp.mono ?_
        rintro E w2 ⟨u, rfl, hP, hb2⟩
        obtain ⟨Au, cu, hu⟩ := hP.slice
        subst hu
        have hbW := hb.trans (hb2.mono hb.size)
        have p2 : w2.cell? ⟨w.heap.size, 0, none⟩ = some (.slice At ts.length ct) := (hb2.cell (by simp; omega)).trans p0
        clear hlp hP hb2 hb1 hB1 p0 p1
        go_wp2_with fail
        go_ret
        exact ⟨rfl, by first | exact hbW | exact hbW.drew⟩
    · have d0 : decide ((0 : Int) ≤ a) = false := decide_eq_false h0
      have hd : decide (true = true ∧ 0 ≤ a ∧ a < ((progPts s).length : Int) ∧ 0 ≤ v ∧ v < (ts.length : Int)) = false := decide_eq_false (fun h => h0 h.2.1)
      rw [hd]
      clear hd hok h0
      go_enter Try.func15, Try.ntmps15
      go_wp2_with fail
      refine hpv.mono ?_
      rintro E w1 ⟨rfl, hb1⟩
      rw [HZ.out] at hb1
      have hb : Below w.heap.size w w1 := hb0.trans (hb1.mono (by omega))
      clear hpv hb1
      go_wp2_with fail
      go_ret
      exact ⟨rfl, by first | exact hb | exact hb.drew⟩

set_option maxRecDepth 100000 in
set_option maxHeartbeats 4000000 in
theorem specUseOf_any (ts : List Int) (s : Sts) (At As : Option Addr) (ct cs : Nat) (a v : Int) (w : World) (hsz : s.size ≤ 1048576) (hT : IntsV w 0 w.heap.size ts At ct) (hR : RepV w 0 w.heap.size s As cs) :
    Calls Try.prog 6 #[.agg #[.slice At ts.length ct, .slice As s.len cs], .int .i64 a, .int .i64 v] w fun E w' => E = .returned (.int .i64 (useOfI (validB ts s) ts s a v)) ∧ Below w.heap.size w w' := by
  have hb0 := (Below.refl w.heap.size w).alloc (Nat.le_refl _) (.cells #[.slice At ts.length ct, .slice As s.len cs] 26)
  have hz0 : (w.alloc (.cells #[.slice At ts.length ct, .slice As s.len cs] 26)).heap.size = w.heap.size + 1 := by simp
  have hB0 := heap_alloc_new w (.cells #[.slice At ts.length ct, .slice As s.len cs] 26)
  have hl3 := l3Point_any ts s At As ct cs a v _ hsz (hT.below hb0 (by simp)) (hR.below hb0 (by simp))
  have HZ := Lib.hid hz0
  have HB := Lib.hid hB0
  clear hz0 hB0
  by_cases hin : validB ts s = true ∧ 0 ≤ a ∧ a < ((progPts s).length : Int) ∧ 0 ≤ v ∧ v < (ts.length : Int)
  · obtain ⟨hok, h0, h1, h2, h3⟩ := id hin
    rw [decide_eq_true hin] at hl3
    obtain ⟨k, rfl⟩ : ∃ k : Nat, a = (k : Int) := ⟨a.toNat, by omega⟩
    obtain ⟨u, rfl⟩ : ∃ u : Nat, v = (u : Int) := ⟨v.toNat, by omega⟩
    obtain ⟨d, hd⟩ : ∃ d, (progPts s)[k]? = some d := ⟨(progPts s)[k], List.getElem?_eq_getElem (by omega)⟩
    rw [hok, useOfI_yes hd (by omega)]
    have h30 := valid_size hok
    have hul : u < ts.length := by omega
    have hlp0 : ∀ W : World, Below w.heap.size w W → Calls Try.prog 17 #[.agg #[.slice At ts.length ct, .slice As s.len cs]] W fun E w' => ∃ v, E = .returned v ∧ PRow w' W.heap.size v (progPts s) ∧ Below W.heap.size W w' := fun W hW => l2Points_any ts s At As ct cs W (by omega) (hR.below hW hW.size)
    generalize progPts s = ds at hlp0 hd h1
    have HLP := Lib.hid hlp0
    have HDK := Lib.hid hd
    have HT := Lib.hid hT
    clear hlp0 hd hin hok h0 hT hR
    go_enter Try.func6, Try.ntmps6
    go_wp2_with fail
    refine hl3.mono ?_
    rintro E w1 ⟨rfl, hb1⟩
    rw [HZ.out] at hb1
    have hs1 := hb1.size
    rw [HZ.out] at hs1
    have hb : Below w.heap.size w w1 := hb0.trans (hb1.mono (by omega))
    have hB1 := (hb1.block w.heap.size (by omega)).trans HB.out
    have p0 : w1.cell? ⟨w.heap.size, 0, none⟩ = some (.slice At ts.length ct) := (cell_of_block hB1 0).trans rfl
    have p1 : w1.cell? ⟨w.heap.size, 1, none⟩ = some (.slice As s.len cs) := (cell_of_block hB1 1).trans rfl
    have hlp := HLP.out w1 hb
    clear hl3 hlp hb1 hB1
    have hlt1 : w.heap.size < w1.heap.size := by omega
    have hds1 : 0 < ds.length := by omega
    go_wp2_with fail
    refine wp_region_held_drew (S := fun w' => Below w1.heap.size w1 w' ∧ w'.cell? ⟨w.heap.size, 0, none⟩ = some (.slice At ts.length ct) ∧ w'.cell? ⟨w.heap.size, 1, none⟩ = some (.slice As s.len cs)) (by kernel_rfl) ⟨(Below.refl w1.heap.size w1).drew, p0, p1⟩ (fun hHeld => ?_)
    refine wpAnyH_take (i := 0) (oi := { dst := some 12, op := Op.fieldAddr 26 (Operand.tmp 3) 0, type := 0, pos := "l3_flows.go:52", after := #[], guard := none }) (v := .pointer (some ⟨w.heap.size, 0, none⟩)) rfl (by kernel_rfl) (by kernel_rfl) (by kernel_rfl) (fun _ _ _ h => h) (Or.inl ⟨by rfl, fun w hSw => by go_simp⟩) hHeld ?_
    try simp only [Act.put, List.setIfInBounds_toArray, List.set_cons_zero, List.set_cons_succ]
    refine wpAnyH_take (i := 1) (oi := { dst := some 13, op := Op.load 23 (Operand.tmp 12), type := 23, pos := "l3_flows.go:52", after := #[{ on := 0, ground := Ground.data }], guard := none }) (v := .slice At ts.length ct) rfl (by kernel_rfl) (by kernel_rfl) (by kernel_rfl) (fun _ _ _ h => h) (Or.inl ⟨by rfl, fun w hSw => by have h8 := hSw.2.1; go_simp⟩) hHeld ?_
    try simp only [Act.put, List.setIfInBounds_toArray, List.set_cons_zero, List.set_cons_succ]
    refine wpAnyH_take (i := 2) (oi := { dst := some 14, op := Op.load 26 (Operand.tmp 3), type := 26, pos := "l3_flows.go:52", after := #[], guard := none }) (v := .agg #[.slice At ts.length ct, .slice As s.len cs]) rfl (by kernel_rfl) (by kernel_rfl) (by kernel_rfl) (fun _ _ _ h => h) (Or.inl ⟨by rfl, fun w hSw => by have h8 := hSw.2.1; have h9 := hSw.2.2; go_simp⟩) hHeld ?_
    try simp only [Act.put, List.setIfInBounds_toArray, List.set_cons_zero, List.set_cons_succ]
    refine wpAnyH_take (i := 4) (oi := { dst := some 16, op := Op.move (Operand.tmp 1), type := 3, pos := "l3_flows.go:52", after := #[], guard := none }) (v := .int .i64 (k : Int)) rfl (by kernel_rfl) (by kernel_rfl) (by kernel_rfl) (fun _ _ _ h => h) (Or.inl ⟨by rfl, fun w hSw => by go_simp⟩) hHeld ?_
    try simp only [Act.put, List.setIfInBounds_toArray, List.set_cons_zero, List.set_cons_succ]
    refine wpAnyH_take (i := 7) (oi := { dst := some 19, op := Op.move (Operand.tmp 2), type := 3, pos := "l3_flows.go:52", after := #[], guard := none }) (v := .int .i64 (u : Int)) rfl (by kernel_rfl) (by kernel_rfl) (by kernel_rfl) (fun _ _ _ h => h) (Or.inl ⟨by rfl, fun w hSw => by go_simp⟩) hHeld ?_
    try simp only [Act.put, List.setIfInBounds_toArray, List.set_cons_zero, List.set_cons_succ]
    refine wpAnyH_ready (rs := [3]) (by kernel_rfl) (by simp) ?_
    refine AllReadyH.cons (o := { dst := some 15, op := Op.call { callee := Callee.value (Operand.func 17), args := #[Operand.tmp 14], argTypes := #[26] }, type := 60, pos := "l3_flows.go:52", after := #[{ on := 2, ground := Ground.data }], guard := none }) rfl (fun K hK => ?_) AllReadyH.nil
    go_simp
    refine (HLP.out _ (hb.trans (hHeld.1.mono (by omega)))).mono ?_
    rintro E w5 ⟨vv, rfl, hP, hb5⟩
    obtain ⟨g, cap, hv5, hgB, hgl, -, -⟩ := hP.form hds1
    subst hv5
    obtain ⟨u5, ⟨c0, c1, c2, c3, c4⟩, hu5⟩ := hP.cells HDK.out
    refine hK.out _ _ (held_2u hb5 hHeld.1 rfl hlt1 p0 p1) (fun hHeld => ?_)
    clear hK K hP hu5
    refine wpAnyH_take (i := 5) (oi := { dst := some 17, op := Op.indexAddr 60 (Operand.tmp 15) (Operand.tmp 16), type := 0, pos := "l3_flows.go:52", after := #[{ on := 3, ground := Ground.data }, { on := 4, ground := Ground.data }], guard := none }) (v := .pointer (some ⟨g, k * 5, none⟩)) rfl (by kernel_rfl) (by kernel_rfl) (by kernel_rfl) (fun _ _ _ h => h) (Or.inl ⟨by rfl, fun w hSw => by go_simp⟩) hHeld ?_
    try simp only [Act.put, List.setIfInBounds_toArray, List.set_cons_zero, List.set_cons_succ]
    refine wpAnyH_ready (rs := [6]) (by kernel_rfl) (by simp) ?_
    refine AllReadyH.cons (o := { dst := some 18, op := Op.load 59 (Operand.tmp 17), type := 59, pos := "l3_flows.go:52", after := #[{ on := 5, ground := Ground.data }], guard := none }) rfl (fun K hK => ?_) AllReadyH.nil
    go_simp
    refine hK.out _ _ hHeld (fun hHeld => ?_)
    clear hK K
    refine wpAnyH_ready (rs := [8]) (by kernel_rfl) (by simp) ?_
    refine AllReadyH.cons (o := { dst := some 20, op := Op.call { callee := Callee.value (Operand.func 16), args := #[Operand.tmp 13, Operand.tmp 18, Operand.tmp 19], argTypes := #[23, 59, 3] }, type := 3, pos := "l3_flows.go:52", after := #[{ on := 1, ground := Ground.data }, { on := 6, ground := Ground.data }, { on := 7, ground := Ground.data }, { on := 3, ground := Ground.chain }], guard := none }) rfl (fun K hK => ?_) AllReadyH.nil
    go_simp
    refine (l3Use_any ts At ct d.op d.x d.y d.n d.next u5 u _ hul (HT.out.below (hb.trans (hHeld.1.mono (by omega))) (by have := hHeld.1.size; omega))).mono ?_
    rintro E w6 ⟨rfl, hb6⟩
    refine hK.out _ _ (held_2u hb6 hHeld.1 rfl hlt1 p0 p1) (fun hHeld => ?_)
    clear hK K
    refine wpAnyH_ready (rs := [9]) (by kernel_rfl) (by simp) ?_
    refine AllReadyH.cons (o := { dst := some 6, op := Op.assign (Operand.tmp 20), type := 3, pos := "l3_flows.go:52", after := #[{ on := 8, ground := Ground.data }, { on := 8, ground := Ground.chain }, { on := 0, ground := Ground.phase }, { on := 1, ground := Ground.phase }, { on := 2, ground := Ground.phase }, { on := 3, ground := Ground.phase }, { on := 4, ground := Ground.phase }, { on := 5, ground := Ground.phase }, { on := 6, ground := Ground.phase }, { on := 7, ground := Ground.phase }, { on := 8, ground := Ground.phase }], guard := none }) rfl (fun K hK => ?_) AllReadyH.nil
    go_simp
    refine hK.out _ _ hHeld (fun hHeld => ?_)
    clear hK K
    refine wpAnyH_done (by kernel_rfl) ?_ _
    have hbl := hHeld.1
    go_wp2_with fail
    go_ret
    exact ⟨rfl, hb.trans (hbl.mono (by omega))⟩
  · rw [useOfI_no hin]
    rw [decide_eq_false hin] at hl3
    clear hin
    go_enter Try.func6, Try.ntmps6
    go_wp2_with fail
    refine hl3.mono ?_
    rintro E w1 ⟨rfl, hb1⟩
    rw [HZ.out] at hb1
    have hb : Below w.heap.size w w1 := hb0.trans (hb1.mono (by omega))
    clear hl3 hb1
    go_wp2_with fail
    go_ret
    exact ⟨rfl, by first | exact hb | exact hb.drew⟩

end Go.Proofs.Ytbffldgiccijlaa
