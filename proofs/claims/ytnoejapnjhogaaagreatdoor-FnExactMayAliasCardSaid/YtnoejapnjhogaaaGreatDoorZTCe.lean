/-
  CellsOf, SettersOf and NumbersOf of the program.
-/
import Derived.Test.YtnoejapnjhogaaaGreatDoorZTAt
import Derived.Test.YtnoejapnjhogaaaGreatDoorZBase
namespace Go.Proofs.YtnoejapnjhogaaaGreatDoor.tr
open Go.RowKit Go.Deep
set_option linter.unusedVariables false

/-- What can be answered for a variable, by number. -/
def TrIn (q : Nat) (ts : List Int) (v : Int) (ns : List Nd) (k l : Nat) : Prop := 0 ≤ v ∧ v < 6 ∧ TrB q ts ns k v.toNat l

theorem trIn_lt {q : Nat} {ts : List Int} {v : Int} {ns : List Nd} {k l : Nat} (hA : AllTyped ts ns) (hle : ns.length ≤ 61) (h : TrIn q ts v ns k l) : l < 64 ∧ v < ts.length := by
  have h9 := TrB.dom hA h.2.2
  have h8 := h9.2
  refine ⟨?_, by have := h.1; omega⟩
  unfold szQ at h8
  split at h8
  · omega
  · split at h8 <;> omega

theorem nil_of {x : Nat} (h : ∀ l, ¬ x.testBit l = true) : x = 0 := Nat.eq_of_testBit_eq fun i => by
  have := h i
  simp only [Nat.zero_testBit]
  cases hx : x.testBit i
  · rfl
  · exact absurd hx this

/-- The list of what the program answers. -/
theorem ans_of {q : Nat} {ts : List Int} {s : Sts} {a v : Int} {x : Nat → Nat} (hx : ∀ u, u < 6 → ∀ l, (bitR x u l ↔ TrAt q ts (validB ts s) s a u l)) : AnsAt (TrIn q ts v) (validB ts s) s a (intsOf (ofZ x v)) := by
  have hbit : ∀ l, (ofZ x v).testBit l = true ↔ 0 ≤ v ∧ v < 6 ∧ TrAt q ts (validB ts s) s a v.toNat l := fun l => by
    unfold ofZ
    by_cases hv : 0 ≤ v ∧ v ≤ 5
    · rw [if_pos hv]
      exact (hx v.toNat (by omega) l).trans ⟨fun h => ⟨hv.1, by omega, h⟩, fun h => h.2.2⟩
    · rw [if_neg hv]
      constructor
      · intro h
        simp at h
      · intro h
        exact absurd ⟨h.1, by omega⟩ hv
  by_cases hin : validB ts s = true ∧ 0 ≤ a ∧ a < ((progPts s).length : Int)
  · have hle : (progPts s).length ≤ 61 := by
      have h8 := s.npts_le
      have h9 := valid_size hin.1
      rw [progPts_len]
      omega
    refine .inl ⟨hin.1, hin.2.1, hin.2.2, fun j => (ofZ x v).testBit j, by unfold intsOf; rw [bitsOf_filter], fun l => ?_⟩
    constructor
    · intro h
      have h9 := (hbit l).mp h.2
      exact ⟨h9.1, h9.2.1, h9.2.2.2.2.2⟩
    · intro h
      exact ⟨(trIn_lt (progPts_allTyped hin.1) hle h).1, (hbit l).mpr ⟨h.1, h.2.1, hin.1, hin.2.1, hin.2.2, h.2.2⟩⟩
  · refine .inr ⟨hin, ?_⟩
    rw [nil_of (x := ofZ x v) fun l h => hin (by have h9 := ((hbit l).mp h).2.2; exact ⟨h9.1, h9.2.1, h9.2.2.1⟩)]
    rfl

theorem ofZ_lt {x : Nat → Nat} (hx : ∀ v, x v < 2305843009213693952) (v : Int) : ofZ x v < 18446744073709551616 := by
  unfold ofZ
  split
  · exact Nat.lt_trans (hx _) (by decide)
  · decide

set_option maxRecDepth 100000 in
set_option maxHeartbeats 2000000 in
theorem implCellsOf_any (ts : List Int) (s : Sts) (At As : Option Addr) (ct cs : Nat) (a v : Int) (w : World) (hT : IntsV w 0 w.heap.size ts At ct) (hR : RepV w 0 w.heap.size s As cs) (hTab : TabAt 0 Lib.deBruijn64tab w) (hg : 0 < w.heap.size) :
    Calls Tryz.prog 14 #[.agg #[.slice At ts.length ct, .slice As s.len cs], .int .i64 a, .int .i64 v] w fun E w' => ∃ v' l, E = .returned v' ∧ RowI w' w.heap.size v' l ∧ AnsAt (TrIn 0 ts v) (validB ts s) s a l ∧ Below w.heap.size w w' := by
  have hb0 := (Below.refl w.heap.size w).alloc (Nat.le_refl _) (.cells #[.slice At ts.length ct, .slice As s.len cs] 30)
  have hz0 : (w.alloc (.cells #[.slice At ts.length ct, .slice As s.len cs] 30)).heap.size = w.heap.size + 1 := by simp
  have hat : Calls Tryz.prog 45 #[.agg #[.slice At ts.length ct, .slice As s.len cs], .int .i64 a, .iface 64 (.agg #[])] (w.alloc (.cells #[.slice At ts.length ct, .slice As s.len cs] 30)) (AnsPer 0 ts s a (w.alloc (.cells #[.slice At ts.length ct, .slice As s.len cs] 30))) := answersAt_any 0 (by decide) ts s At As ct cs a _ (hT.below hb0 (by simp)) (hR.below hb0 (by simp)) (tab_below hTab hg hb0) (by rw [hz0]; omega)
  have HZ := Lib.hid hz0
  clear hz0 hT hR
  go_enter Tryz.func14, Tryz.ntmps14
  go_wp2_with fail
  refine hat.mono ?_
  rintro E w1 ⟨x, rfl, hx, hbit, hb1⟩
  rw [HZ.out] at hb1
  have HB1 := Lib.hid (hb0.trans (hb1.mono (by omega)))
  have HANS := Lib.hid (ans_of (v := v) hbit)
  have hof := of_any x v w1
  have HLT := Lib.hid (ofZ_lt hx v)
  clear hat hb1 hb0 hbit hx
  obtain ⟨y, hy⟩ : ∃ y, y = ofZ x v := ⟨_, rfl⟩
  rw [← hy] at hof HANS HLT
  clear hy
  go_wp2_with fail
  refine hof.mono ?_
  rintro E w2 ⟨rfl, hb2⟩
  have HB2 := Lib.hid (HB1.out.trans (hb2.mono HB1.out.size))
  have hls := setList_any y HLT.out w2 (tab_below hTab hg HB2.out) (by have := HB2.out.size; omega)
  clear hof hb2 HB1
  go_wp2_with fail
  refine hls.mono ?_
  rintro E w5 ⟨v', rfl, hrow, hb5⟩
  have HROW := Lib.hid (hrow.mono HB2.out.size)
  have HB5 := Lib.hid (HB2.out.trans (hb5.mono HB2.out.size))
  clear hls hrow hb5
  go_wp2_with fail
  go_ret
  exact ⟨v', intsOf y, rfl, HROW.out, HANS.out, HB5.out⟩

set_option maxRecDepth 100000 in
set_option maxHeartbeats 2000000 in
theorem implSettersOf_any (ts : List Int) (s : Sts) (At As : Option Addr) (ct cs : Nat) (a v : Int) (w : World) (hT : IntsV w 0 w.heap.size ts At ct) (hR : RepV w 0 w.heap.size s As cs) (hTab : TabAt 0 Lib.deBruijn64tab w) (hg : 0 < w.heap.size) :
    Calls Tryz.prog 27 #[.agg #[.slice At ts.length ct, .slice As s.len cs], .int .i64 a, .int .i64 v] w fun E w' => ∃ v' l, E = .returned v' ∧ RowI w' w.heap.size v' l ∧ AnsAt (TrIn 1 ts v) (validB ts s) s a l ∧ Below w.heap.size w w' := by
  have hb0 := (Below.refl w.heap.size w).alloc (Nat.le_refl _) (.cells #[.slice At ts.length ct, .slice As s.len cs] 30)
  have hz0 : (w.alloc (.cells #[.slice At ts.length ct, .slice As s.len cs] 30)).heap.size = w.heap.size + 1 := by simp
  have hat : Calls Tryz.prog 45 #[.agg #[.slice At ts.length ct, .slice As s.len cs], .int .i64 a, .iface 72 (.agg #[])] (w.alloc (.cells #[.slice At ts.length ct, .slice As s.len cs] 30)) (AnsPer 1 ts s a (w.alloc (.cells #[.slice At ts.length ct, .slice As s.len cs] 30))) := answersAt_any 1 (by decide) ts s At As ct cs a _ (hT.below hb0 (by simp)) (hR.below hb0 (by simp)) (tab_below hTab hg hb0) (by rw [hz0]; omega)
  have HZ := Lib.hid hz0
  clear hz0 hT hR
  go_enter Tryz.func27, Tryz.ntmps27
  go_wp2_with fail
  refine hat.mono ?_
  rintro E w1 ⟨x, rfl, hx, hbit, hb1⟩
  rw [HZ.out] at hb1
  have HB1 := Lib.hid (hb0.trans (hb1.mono (by omega)))
  have HANS := Lib.hid (ans_of (v := v) hbit)
  have hof := of_any x v w1
  have HLT := Lib.hid (ofZ_lt hx v)
  clear hat hb1 hb0 hbit hx
  obtain ⟨y, hy⟩ : ∃ y, y = ofZ x v := ⟨_, rfl⟩
  rw [← hy] at hof HANS HLT
  clear hy
  go_wp2_with fail
  refine hof.mono ?_
  rintro E w2 ⟨rfl, hb2⟩
  have HB2 := Lib.hid (HB1.out.trans (hb2.mono HB1.out.size))
  have hls := setList_any y HLT.out w2 (tab_below hTab hg HB2.out) (by have := HB2.out.size; omega)
  clear hof hb2 HB1
  go_wp2_with fail
  refine hls.mono ?_
  rintro E w5 ⟨v', rfl, hrow, hb5⟩
  have HROW := Lib.hid (hrow.mono HB2.out.size)
  have HB5 := Lib.hid (HB2.out.trans (hb5.mono HB2.out.size))
  clear hls hrow hb5
  go_wp2_with fail
  go_ret
  exact ⟨v', intsOf y, rfl, HROW.out, HANS.out, HB5.out⟩

set_option maxRecDepth 100000 in
set_option maxHeartbeats 2000000 in
theorem implNumbersOf_any (ts : List Int) (s : Sts) (At As : Option Addr) (ct cs : Nat) (a v : Int) (w : World) (hT : IntsV w 0 w.heap.size ts At ct) (hR : RepV w 0 w.heap.size s As cs) (hTab : TabAt 0 Lib.deBruijn64tab w) (hg : 0 < w.heap.size) :
    Calls Tryz.prog 23 #[.agg #[.slice At ts.length ct, .slice As s.len cs], .int .i64 a, .int .i64 v] w fun E w' => ∃ v' l, E = .returned v' ∧ RowI w' w.heap.size v' l ∧ AnsAt (TrIn 2 ts v) (validB ts s) s a l ∧ Below w.heap.size w w' := by
  have hb0 := (Below.refl w.heap.size w).alloc (Nat.le_refl _) (.cells #[.slice At ts.length ct, .slice As s.len cs] 30)
  have hz0 : (w.alloc (.cells #[.slice At ts.length ct, .slice As s.len cs] 30)).heap.size = w.heap.size + 1 := by simp
  have hat : Calls Tryz.prog 45 #[.agg #[.slice At ts.length ct, .slice As s.len cs], .int .i64 a, .iface 69 (.agg #[])] (w.alloc (.cells #[.slice At ts.length ct, .slice As s.len cs] 30)) (AnsPer 2 ts s a (w.alloc (.cells #[.slice At ts.length ct, .slice As s.len cs] 30))) := answersAt_any 2 (by decide) ts s At As ct cs a _ (hT.below hb0 (by simp)) (hR.below hb0 (by simp)) (tab_below hTab hg hb0) (by rw [hz0]; omega)
  have HZ := Lib.hid hz0
  clear hz0 hT hR
  go_enter Tryz.func23, Tryz.ntmps23
  go_wp2_with fail
  refine hat.mono ?_
  rintro E w1 ⟨x, rfl, hx, hbit, hb1⟩
  rw [HZ.out] at hb1
  have HB1 := Lib.hid (hb0.trans (hb1.mono (by omega)))
  have HANS := Lib.hid (ans_of (v := v) hbit)
  have hof := of_any x v w1
  have HLT := Lib.hid (ofZ_lt hx v)
  clear hat hb1 hb0 hbit hx
  obtain ⟨y, hy⟩ : ∃ y, y = ofZ x v := ⟨_, rfl⟩
  rw [← hy] at hof HANS HLT
  clear hy
  go_wp2_with fail
  refine hof.mono ?_
  rintro E w2 ⟨rfl, hb2⟩
  have HB2 := Lib.hid (HB1.out.trans (hb2.mono HB1.out.size))
  have hls := setList_any y HLT.out w2 (tab_below hTab hg HB2.out) (by have := HB2.out.size; omega)
  clear hof hb2 HB1
  go_wp2_with fail
  refine hls.mono ?_
  rintro E w5 ⟨v', rfl, hrow, hb5⟩
  have HROW := Lib.hid (hrow.mono HB2.out.size)
  have HB5 := Lib.hid (HB2.out.trans (hb5.mono HB2.out.size))
  clear hls hrow hb5
  go_wp2_with fail
  go_ret
  exact ⟨v', intsOf y, rfl, HROW.out, HANS.out, HB5.out⟩

end Go.Proofs.YtnoejapnjhogaaaGreatDoor.tr
