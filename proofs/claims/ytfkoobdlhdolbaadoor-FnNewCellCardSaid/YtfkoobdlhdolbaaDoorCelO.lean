/-
  The place of a pointer, by the model.
-/
import Derived.Test.YtfkoobdlhdolbaaDoorCelW
import Derived.Test.YtfkoobdlhdolbaaDoorCelA
namespace Go.Proofs.YtfkoobdlhdolbaaDoor
open Go.RowKit Go.Deep
set_option linter.unusedVariables false

/-- What a place answers. -/
def PlacePost (k e : Int) (w : World) (E : Ending) (w' : World) : Prop := E = .returned (.tuple #[.int .i64 k, .int .i64 e]) ∧ Below w.heap.size w w'

theorem RdC.at_ {w : World} {A : Option Addr} {n c : Nat} {cs : List CellD} (h : RdC w (.slice A n c) cs) {i : Nat} {d : CellD} (hd : cs[i]? = some d) :
    ∃ b Au cu, A = some b ∧ b.block < w.heap.size ∧ (w.cell? (b.add (i * 4)) = some (.int .i64 d.val) ∧ w.cell? ⟨(b.add (i * 4)).block, (b.add (i * 4)).off + 1, none⟩ = some (.bool d.alive) ∧
      w.cell? ⟨(b.add (i * 4)).block, (b.add (i * 4)).off + 2, none⟩ = some (.int .i64 d.next) ∧ w.cell? ⟨(b.add (i * 4)).block, (b.add (i * 4)).off + 3, none⟩ = some (.slice Au d.tags.length cu)) ∧ RdT w (.slice Au d.tags.length cu) d.tags := by
  obtain ⟨b, val, al, nx, ts, Au, cu, h1, h2, h3, h4, h5, _⟩ := h.elem (List.getElem?_eq_some_iff.1 hd).1
  rw [hd] at h3
  injection h3 with h3
  subst h3
  exact ⟨b, Au, cu, h1, h2, h4, h5⟩

set_option maxRecDepth 100000 in
set_option maxHeartbeats 4000000 in
theorem l6Place_in (cs : List CellD) (A : Option Addr) (q c : Nat) (pc pt : Int) (i : Nat) (d : CellD) (w : World) (h : RdC w (.slice A q c) cs) (hm : memB cs = true) (hc : pc = i) (hd : cs[i]? = some d) :
    Calls Tryd.prog 46 #[.slice A q c, .agg #[.int .i64 pc, .int .i64 pt]] w (if d.alive = true then (match tagAt pt d.tags with | some k => PlacePost k 0 w | none => PlacePost 0 2 w) else PlacePost 0 1 w) := by
  subst hc
  obtain ⟨hq, hc1, hc2⟩ := h.len
  unfold maxLen at hc2
  have hiq : i < q := by rw [hq]; exact (List.getElem?_eq_some_iff.1 hd).1
  have hbw := (Below.refl w.heap.size w).alloc (Nat.le_refl _) (.cells #[.int .i64 (i : Int), .int .i64 pt] 25)
  have hX := heap_alloc_new w (.cells #[.int .i64 (i : Int), .int .i64 pt] 25)
  have hz : (w.alloc (.cells #[.int .i64 (i : Int), .int .i64 pt] 25)).heap.size = w.heap.size + 1 := by simp
  have HX := Lib.hid hX
  have HZ := Lib.hid hz
  have H := Lib.hid h
  have HDD := Lib.hid hd
  have hcall := specCellsValid_any cs A q c _ (h.below hbw)
  rw [hm] at hcall
  have HC := Lib.hid hcall
  clear hX hz h hm hcall hd hq
  have main : ∀ w1, BoolPost true (w.alloc (.cells #[.int .i64 (i : Int), .int .i64 pt] 25)) (.returned (.bool true)) w1 → Hid (Below w.heap.size w w1 ∧ w1.cell? ⟨w.heap.size, 0, none⟩ = some (.int .i64 (i : Int)) ∧ w1.cell? ⟨w.heap.size, 1, none⟩ = some (.int .i64 pt) ∧ RdC w1 (.slice A q c) cs) := by
    intro w1 h1
    have hb := h1.2
    rw [HZ.out] at hb
    have hXw := (hb.block w.heap.size (by omega)).trans HX.out
    exact ⟨hbw.trans (hb.mono (by omega)), (cell_of_block hXw 0).trans rfl, (cell_of_block hXw 1).trans rfl, H.out.below (hbw.trans (hb.mono (by omega)))⟩
  have MAIN := Lib.hid main
  clear main hbw
  have t1 : decide ((i : Int) < 0) = false := decide_eq_false (by omega)
  have t2 : decide ((q : Int) ≤ (i : Int)) = false := decide_eq_false (by omega)
  have t3 : decide ((i : Int) ≥ (q : Int)) = false := decide_eq_false (by omega)
  obtain ⟨dv, da, dn, dt⟩ := d
  cases da with
  | false =>
    rw [if_neg (by simp)]
    go_enter Tryd.func46, Tryd.ntmps46
    go_wp2_with fail
    refine HC.out.mono ?_
    rintro E w1 ⟨rfl, hb1⟩
    obtain ⟨hb, x0, x1, hR⟩ := (MAIN.out w1 ⟨rfl, hb1⟩).out
    obtain ⟨b, Au, cu, rfl, hbb, ⟨a0, a1, a2, a3⟩, hT⟩ := hR.at_ HDD.out
    clear hb1 hR hT
    go_wp2_with fail
    go_ret2
    exact ⟨rfl, hb⟩
  | true =>
    rw [if_pos rfl]
    cases hk : tagAt pt dt with
    | none =>
      have HK := Lib.hid (show tagI pt dt = -1 by unfold tagI; rw [hk])
      clear hk
      go_enter Tryd.func46, Tryd.ntmps46
      go_wp2_with fail
      refine HC.out.mono ?_
      rintro E w1 ⟨rfl, hb1⟩
      obtain ⟨hb, x0, x1, hR⟩ := (MAIN.out w1 ⟨rfl, hb1⟩).out
      obtain ⟨b, Au, cu, rfl, hbb, ⟨a0, a1, a2, a3⟩, hT⟩ := hR.at_ HDD.out
      have HCL := Lib.hid (fun n => (l6Tag_any dt Au dt.length cu pt (w1.drewN n) hT).mono (fun e w' (h : _ ∧ _) => (⟨h.1.trans (by rw [HK.out]), h.2.symm⟩ : e = .returned (.int .i64 (-1)) ∧ w' = w1.drewN n)))
      clear hb1 hR hT
      go_wp2_with fail
      go_quiet ((go_at_call 77; exact Calls.quiet_of_same (HCL.out _)))
      go_wp2_with fail
      go_ret2
      exact ⟨rfl, below_drewN hb _⟩
    | some k =>
      have hkl := tagAt_lt hk
      have HK := Lib.hid (show tagI pt dt = (k : Int) by unfold tagI; rw [hk])
      clear hk
      go_enter Tryd.func46, Tryd.ntmps46
      go_wp2_with fail
      refine HC.out.mono ?_
      rintro E w1 ⟨rfl, hb1⟩
      obtain ⟨hb, x0, x1, hR⟩ := (MAIN.out w1 ⟨rfl, hb1⟩).out
      obtain ⟨b, Au, cu, rfl, hbb, ⟨a0, a1, a2, a3⟩, hT⟩ := hR.at_ HDD.out
      have HCL := Lib.hid (fun n => (l6Tag_any dt Au dt.length cu pt (w1.drewN n) hT).mono (fun e w' (h : _ ∧ _) => (⟨h.1.trans (by rw [HK.out]), h.2.symm⟩ : e = .returned (.int .i64 (k : Int)) ∧ w' = w1.drewN n)))
      clear hb1 hR hT
      go_wp2_with fail
      go_quiet ((go_at_call 77; exact Calls.quiet_of_same (HCL.out _)))
      go_wp2_with fail
      go_ret2
      exact ⟨rfl, below_drewN hb _⟩

set_option maxRecDepth 100000 in
set_option maxHeartbeats 4000000 in
theorem l6Place_bad (cs : List CellD) (A : Option Addr) (q c : Nat) (pc pt : Int) (w : World) (h : RdC w (.slice A q c) cs) (hm : ¬ (memB cs = true ∧ 0 ≤ pc ∧ pc < cs.length)) :
    Calls Tryd.prog 46 #[.slice A q c, .agg #[.int .i64 pc, .int .i64 pt]] w (PlacePost 0 4 w) := by
  obtain ⟨hq, hc1, hc2⟩ := h.len
  unfold maxLen at hc2
  rw [← hq] at hm
  have hbw := (Below.refl w.heap.size w).alloc (Nat.le_refl _) (.cells #[.int .i64 pc, .int .i64 pt] 25)
  have hX := heap_alloc_new w (.cells #[.int .i64 pc, .int .i64 pt] 25)
  have hz : (w.alloc (.cells #[.int .i64 pc, .int .i64 pt] 25)).heap.size = w.heap.size + 1 := by simp
  have HX := Lib.hid hX
  have HZ := Lib.hid hz
  have hcall := specCellsValid_any cs A q c _ (h.below hbw)
  clear hX hz h hq
  have main : ∀ (z : Bool) w1, BoolPost z (w.alloc (.cells #[.int .i64 pc, .int .i64 pt] 25)) (.returned (.bool z)) w1 → Hid (Below w.heap.size w w1 ∧ w1.cell? ⟨w.heap.size, 0, none⟩ = some (.int .i64 pc)) := by
    intro z w1 h1
    have hb := h1.2
    rw [HZ.out] at hb
    have hXw := (hb.block w.heap.size (by omega)).trans HX.out
    exact ⟨hbw.trans (hb.mono (by omega)), (cell_of_block hXw 0).trans rfl⟩
  have MAIN := Lib.hid main
  clear main hbw
  cases hB : memB cs with
  | false =>
    rw [hB] at hcall
    have HC := Lib.hid hcall
    clear hcall hB hm
    go_enter Tryd.func46, Tryd.ntmps46
    go_wp2_with fail
    refine HC.out.mono ?_
    rintro E w1 ⟨rfl, hb1⟩
    obtain ⟨hb, x0⟩ := (MAIN.out false w1 ⟨rfl, hb1⟩).out
    clear hb1
    go_wp2_with fail
    go_ret2
    exact ⟨rfl, hb⟩
  | true =>
    rw [hB] at hcall hm
    have HC := Lib.hid hcall
    clear hcall hB
    by_cases h0 : pc < 0
    · have t1 : decide (pc < 0) = true := decide_eq_true h0
      clear hm
      go_enter Tryd.func46, Tryd.ntmps46
      go_wp2_with fail
      refine HC.out.mono ?_
      rintro E w1 ⟨rfl, hb1⟩
      obtain ⟨hb, x0⟩ := (MAIN.out true w1 ⟨rfl, hb1⟩).out
      clear hb1
      go_wp2_with fail
      go_ret2
      exact ⟨rfl, hb⟩
    · have t1 : decide (pc < 0) = false := decide_eq_false h0
      have hge : (q : Int) ≤ pc := by
        rcases Int.lt_or_le pc q with h | h
        · exact absurd ⟨rfl, by omega, h⟩ hm
        · exact h
      have t2 : decide ((q : Int) ≤ pc) = true := decide_eq_true hge
      clear hm
      go_enter Tryd.func46, Tryd.ntmps46
      go_wp2_with fail
      refine HC.out.mono ?_
      rintro E w1 ⟨rfl, hb1⟩
      obtain ⟨hb, x0⟩ := (MAIN.out true w1 ⟨rfl, hb1⟩).out
      clear hb1
      go_wp2_with fail
      go_ret2
      exact ⟨rfl, hb⟩

/-- The place of a pointer that leads to a tag. -/
theorem l6Place_ok (cs : List CellD) (A : Option Addr) (q c : Nat) (pc pt : Int) (i k : Nat) (d : CellD) (w : World) (h : RdC w (.slice A q c) cs) (hh : hit cs pc pt = .ok (i, k, d)) :
    Calls Tryd.prog 46 #[.slice A q c, .agg #[.int .i64 pc, .int .i64 pt]] w (PlacePost k 0 w) := by
  obtain ⟨h1, h2, h3, h4, h5⟩ := hit_ok hh
  have := l6Place_in cs A q c pc pt i d w h h1 h2 h3
  rw [if_pos h4, h5] at this
  exact this

/-- Why a pointer leads to none. -/
theorem l6Place_err (cs : List CellD) (A : Option Addr) (q c : Nat) (pc pt e : Int) (w : World) (h : RdC w (.slice A q c) cs) (hh : hit cs pc pt = .error e) :
    Calls Tryd.prog 46 #[.slice A q c, .agg #[.int .i64 pc, .int .i64 pt]] w (PlacePost 0 e w) ∧ e ≠ 0 := by
  cases hit_error hh with
  | bad hm => exact ⟨l6Place_bad cs A q c pc pt w h hm, by decide⟩
  | freed i d hm hc hd ha =>
    have := l6Place_in cs A q c pc pt i d w h hm hc hd
    rw [if_neg (by simp [ha])] at this
    exact ⟨this, by decide⟩
  | lost i d hm hc hd ha hk =>
    have := l6Place_in cs A q c pc pt i d w h hm hc hd
    rw [if_pos ha, hk] at this
    exact ⟨this, by decide⟩

end Go.Proofs.YtfkoobdlhdolbaaDoor
