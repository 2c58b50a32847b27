/-
  Shared and unique pointers, and new cells, by the model.
-/
import Derived.Test.YtnneamfndokleaaDoorCelX
import Derived.Test.YtnneamfndokleaaDoorCelZ
import Derived.Test.YtnneamfndokleaaDoorCelU
namespace Go.Proofs.YtnneamfndokleaaDoor
open Go.RowKit Go.Deep
set_option linter.unusedVariables false

theorem readT_len (ts : List TagD) (k : Nat) : (readT ts k).length ≤ ts.length := by
  unfold readT
  have h1 := List.length_filter_le (fun t : TagD => !t.u) (ts.drop (k + 1))
  simp at h1 ⊢
  omega

set_option maxRecDepth 100000 in
set_option maxHeartbeats 4000000 in
theorem specShareCell_any (cs : List CellD) (A : Option Addr) (q c : Nat) (pc pt : Int) (w : World) (h : RdC w (.slice A q c) cs) (hl : cs.length + tagSum cs ≤ 1048600) :
    Calls Tryd.prog 18 #[.slice A q c, .agg #[.int .i64 pc, .int .i64 pt]] w (Post4 w.heap.size (shareA cs pc pt).1 (shareA cs pc pt).2.1 (shareA cs pc pt).2.2 w) := by
  have H := Lib.hid h
  obtain ⟨q1, q2, q3⟩ := heap2 w (.cells #[.int .i64 pc, .int .i64 pt] 30) (.cells #[.int .i64 0, .int .i64 0] 30)
  have hb0 : Below w.heap.size w ((w.alloc (.cells #[.int .i64 pc, .int .i64 pt] 30)).alloc (.cells #[.int .i64 0, .int .i64 0] 30)) := ((Below.refl w.heap.size w).alloc (Nat.le_refl _) _).alloc (by simp) _
  have HQ1 := Lib.hid q1
  have HQ2 := Lib.hid q2
  have HQ3 := Lib.hid q3
  have HB0 := Lib.hid hb0
  have HR := H.out.below hb0
  cases hh : hit cs pc pt with
  | error e =>
    have hA : shareA cs pc pt = (cs, (0, 0), e) := by unfold shareA; rw [hh]
    rw [hA]
    have he0 := (l6Place_err cs A q c pc pt e w h hh).2
    have hcall := specReadCell_err cs A q c pc pt e _ HR hl hh
    have he1 : ((e : Int) != 0) = true := by simpa using he0
    have HC := Lib.hid hcall
    clear h q1 q2 q3 hb0 HR hcall hA hh
    go_enter Tryd.func18, Tryd.ntmps18
    go_wp2_with fail
    refine HC.out.mono ?_
    rintro E w1 ⟨A1, n1, c1, rfl, hR1, hb1⟩
    rw [HQ3.out] at hR1 hb1
    have hX1 := (hb1.block w.heap.size (by omega)).trans HQ1.out
    have hX2 := (hb1.block (w.heap.size + 1) (by omega)).trans HQ2.out
    have hz1 := hb1.size
    rw [HQ3.out] at hz1
    have hbb : Below w.heap.size w w1 := HB0.out.trans (hb1.mono (by omega))
    have x0 : w1.cell? ⟨w.heap.size + 1, 0, none⟩ = some (.int .i64 0) := (cell_of_block hX2 0).trans rfl
    have x1 : w1.cell? ⟨w.heap.size + 1, 1, none⟩ = some (.int .i64 0) := (cell_of_block hX2 1).trans rfl
    have f0 := frozen_of_block hX2 0
    have f1 := frozen_of_block hX2 1
    have HR1 := Lib.hid hR1
    clear hR1 hb1 hX1 hX2
    go_wp2_with fail
    refine bodyPost_ret (v := .tuple #[.slice A1 n1 c1, .agg #[.int .i64 0, .int .i64 0], .int .i64 e]) (by simp [results, Tryd.results18, go_sem, x0, x1]) rfl ⟨_, _, _, rfl, ((HR1.out.setLow (by omega)).setLow (by omega)).mono (by omega), ?_⟩
    exact (hbb.setCell (by simp) _).setCell (by simp) _
  | ok r =>
    obtain ⟨i, k, d⟩ := r
    have hcall := specReadCell_ok cs A q c pc pt i k d _ HR hl hh
    obtain ⟨hm, hc, hd, -, hk⟩ := hit_ok hh
    have hil := (List.getElem?_eq_some_iff.1 hd).1
    have hok := (memB_out hm).2 i d hd
    have hlm := hok.lenM
    have hn1 := hok.next1
    have hnM := hok.nextM
    have htl : (readT d.tags k).length ≤ 200 := by have := readT_len d.tags k; omega
    subst hc
    have hd2 : (cs.set i { d with tags := readT d.tags k })[i]? = some { d with tags := readT d.tags k } := by rw [List.getElem?_set_self hil]
    have HD2 := Lib.hid hd2
    have HC := Lib.hid hcall
    by_cases hfull : (readT d.tags k).length < 200 ∧ d.next < 1000
    · have hA : shareA cs i pt = (cs.set i { d with tags := readT d.tags k ++ [⟨d.next, false⟩], next := d.next + 1 }, ((i : Int), d.next), 0) := by unfold shareA; rw [hh]; show pushA cs i d (readT d.tags k) false = _; unfold pushA; rw [if_pos hfull]
      rw [hA]
      have HF := Lib.hid hfull
      clear h q1 q2 q3 hb0 HR hcall hA hh hok hm hd hk hd2 hfull
      go_enter Tryd.func18, Tryd.ntmps18
      go_wp2_with fail
      refine HC.out.mono ?_
      rintro E w1 ⟨A1, n1, c1, rfl, hR1, hb1⟩
      rw [HQ3.out] at hR1 hb1
      have hX1 := (hb1.block w.heap.size (by omega)).trans HQ1.out
      have hX2 := (hb1.block (w.heap.size + 1) (by omega)).trans HQ2.out
      have hz1 := hb1.size
      rw [HQ3.out] at hz1
      have hbb : Below w.heap.size w w1 := HB0.out.trans (hb1.mono (by omega))
      have y0 : w1.cell? ⟨w.heap.size, 0, none⟩ = some (.int .i64 (i : Int)) := (cell_of_block hX1 0).trans rfl
      have hP := l6Push_ok _ A1 A n1 c1 q c i (w.heap.size + 2) _ false w1 hR1 (by omega) HD2.out hn1 HF.out
      rw [list_set_set] at hP
      have HP := Lib.hid hP
      have HX2 := Lib.hid hX2
      clear hR1 hb1 hX1 hX2 hP
      go_wp2_with fail
      refine HP.out.mono ?_
      rintro E w2 ⟨A2, n2, c2, rfl, hR2, hb2⟩
      have hX3 := (hb2.block (w.heap.size + 1) (by omega)).trans HX2.out
      have x0 : w2.cell? ⟨w.heap.size + 1, 0, none⟩ = some (.int .i64 0) := (cell_of_block hX3 0).trans rfl
      have x1 : w2.cell? ⟨w.heap.size + 1, 1, none⟩ = some (.int .i64 0) := (cell_of_block hX3 1).trans rfl
      have f0 := frozen_of_block hX3 0
      have f1 := frozen_of_block hX3 1
      have HR2 := Lib.hid hR2
      have hbb2 : Below w.heap.size w w2 := hbb.trans (hb2.mono (by omega))
      clear hR2 hb2 hX3
      go_wp2_with fail
      refine bodyPost_ret (v := .tuple #[.slice A2 n2 c2, .agg #[.int .i64 (i : Int), .int .i64 d.next], .int .i64 0]) (by simp [results, Tryd.results18, go_sem, x0, x1]) rfl ⟨_, _, _, rfl, ((HR2.out.setLow (by omega)).setLow (by omega)).mono (by omega), ?_⟩
      exact (hbb2.setCell (by simp) _).setCell (by simp) _
    · have hA : shareA cs i pt = (cs, (0, 0), 4) := by unfold shareA; rw [hh]; show pushA cs i d (readT d.tags k) false = _; unfold pushA; rw [if_neg hfull]
      rw [hA]
      have HF := Lib.hid hfull
      have HL := Lib.hid hl
      clear h q1 q2 q3 hb0 HR hcall hA hh hok hm hd hk hd2 hfull
      go_enter Tryd.func18, Tryd.ntmps18
      go_wp2_with fail
      refine HC.out.mono ?_
      rintro E w1 ⟨A1, n1, c1, rfl, hR1, hb1⟩
      rw [HQ3.out] at hR1 hb1
      have hX1 := (hb1.block w.heap.size (by omega)).trans HQ1.out
      have hX2 := (hb1.block (w.heap.size + 1) (by omega)).trans HQ2.out
      have hz1 := hb1.size
      rw [HQ3.out] at hz1
      have hbb : Below w.heap.size w w1 := HB0.out.trans (hb1.mono (by omega))
      have y0 : w1.cell? ⟨w.heap.size, 0, none⟩ = some (.int .i64 (i : Int)) := (cell_of_block hX1 0).trans rfl
      have hP := l6Push_full _ cs A1 A n1 c1 q c i (w.heap.size + 2) _ false w1 hR1 (by omega) HD2.out htl hn1 hnM (H.out.below hbb) HL.out HF.out
      have HP := Lib.hid hP
      have HX2 := Lib.hid hX2
      clear hR1 hb1 hX1 hX2 hP
      go_wp2_with fail
      refine HP.out.mono ?_
      rintro E w2 ⟨A2, n2, c2, rfl, hR2, hb2⟩
      have hX3 := (hb2.block (w.heap.size + 1) (by omega)).trans HX2.out
      have x0 : w2.cell? ⟨w.heap.size + 1, 0, none⟩ = some (.int .i64 0) := (cell_of_block hX3 0).trans rfl
      have x1 : w2.cell? ⟨w.heap.size + 1, 1, none⟩ = some (.int .i64 0) := (cell_of_block hX3 1).trans rfl
      have f0 := frozen_of_block hX3 0
      have f1 := frozen_of_block hX3 1
      have HR2 := Lib.hid hR2
      have hbb2 : Below w.heap.size w w2 := hbb.trans (hb2.mono (by omega))
      clear hR2 hb2 hX3
      go_wp2_with fail
      refine bodyPost_ret (v := .tuple #[.slice A2 n2 c2, .agg #[.int .i64 0, .int .i64 0], .int .i64 4]) (by simp [results, Tryd.results18, go_sem, x0, x1]) rfl ⟨_, _, _, rfl, ((HR2.out.setLow (by omega)).setLow (by omega)).mono (by omega), ?_⟩
      exact (hbb2.setCell (by simp) _).setCell (by simp) _

set_option maxRecDepth 100000 in
set_option maxHeartbeats 4000000 in
theorem specBorrowCell_any (cs : List CellD) (A : Option Addr) (q c : Nat) (pc pt : Int) (w : World) (h : RdC w (.slice A q c) cs) (hl : cs.length + tagSum cs ≤ 1048600) :
    Calls Tryd.prog 21 #[.slice A q c, .agg #[.int .i64 pc, .int .i64 pt]] w (Post4 w.heap.size (borrowA cs pc pt).1 (borrowA cs pc pt).2.1 (borrowA cs pc pt).2.2 w) := by
  have H := Lib.hid h
  obtain ⟨q1, q2, q3⟩ := heap2 w (.cells #[.int .i64 pc, .int .i64 pt] 30) (.cells #[.int .i64 0, .int .i64 0] 30)
  have hb0 : Below w.heap.size w ((w.alloc (.cells #[.int .i64 pc, .int .i64 pt] 30)).alloc (.cells #[.int .i64 0, .int .i64 0] 30)) := ((Below.refl w.heap.size w).alloc (Nat.le_refl _) _).alloc (by simp) _
  have HQ1 := Lib.hid q1
  have HQ2 := Lib.hid q2
  have HQ3 := Lib.hid q3
  have HB0 := Lib.hid hb0
  have HR := H.out.below hb0
  cases hh : hitW cs pc pt with
  | error e =>
    have hA : borrowA cs pc pt = (cs, (0, 0), e) := by unfold borrowA; rw [hh]
    rw [hA]
    have he0 := ((l6Write_any cs A q c pc pt w h hl).1 e hh).1
    have hcall := ((l6Write_any cs A q c pc pt _ HR hl).1 e hh).2
    have he1 : ((e : Int) != 0) = true := by simpa using he0
    have HC := Lib.hid hcall
    clear h q1 q2 q3 hb0 HR hcall hA hh
    go_enter Tryd.func21, Tryd.ntmps21
    go_wp2_with fail
    refine HC.out.mono ?_
    rintro E w1 ⟨A1, n1, c1, rfl, hR1, hb1⟩
    rw [HQ3.out] at hR1 hb1
    have hX1 := (hb1.block w.heap.size (by omega)).trans HQ1.out
    have hX2 := (hb1.block (w.heap.size + 1) (by omega)).trans HQ2.out
    have hz1 := hb1.size
    rw [HQ3.out] at hz1
    have hbb : Below w.heap.size w w1 := HB0.out.trans (hb1.mono (by omega))
    have x0 : w1.cell? ⟨w.heap.size + 1, 0, none⟩ = some (.int .i64 0) := (cell_of_block hX2 0).trans rfl
    have x1 : w1.cell? ⟨w.heap.size + 1, 1, none⟩ = some (.int .i64 0) := (cell_of_block hX2 1).trans rfl
    have f0 := frozen_of_block hX2 0
    have f1 := frozen_of_block hX2 1
    have HR1 := Lib.hid hR1
    clear hR1 hb1 hX1 hX2
    go_wp2_with fail
    refine bodyPost_ret (v := .tuple #[.slice A1 n1 c1, .agg #[.int .i64 0, .int .i64 0], .int .i64 e]) (by simp [results, Tryd.results21, go_sem, x0, x1]) rfl ⟨_, _, _, rfl, ((HR1.out.setLow (by omega)).setLow (by omega)).mono (by omega), ?_⟩
    exact (hbb.setCell (by simp) _).setCell (by simp) _
  | ok r =>
    obtain ⟨i, k, d⟩ := r
    have hcall := (l6Write_any cs A q c pc pt _ HR hl).2 i k d hh
    obtain ⟨hm, hc, hd, -, hk⟩ := hit_ok (hitW_ok hh).1
    have hil := (List.getElem?_eq_some_iff.1 hd).1
    have hok := (memB_out hm).2 i d hd
    have hlm := hok.lenM
    have hn1 := hok.next1
    have hnM := hok.nextM
    have htl : (d.tags.take (k + 1)).length ≤ 200 := by rw [List.length_take]; omega
    subst hc
    have hd2 : (cs.set i { d with tags := d.tags.take (k + 1) })[i]? = some { d with tags := d.tags.take (k + 1) } := by rw [List.getElem?_set_self hil]
    have HD2 := Lib.hid hd2
    have HC := Lib.hid hcall
    by_cases hfull : (d.tags.take (k + 1)).length < 200 ∧ d.next < 1000
    · have hA : borrowA cs i pt = (cs.set i { d with tags := d.tags.take (k + 1) ++ [⟨d.next, true⟩], next := d.next + 1 }, ((i : Int), d.next), 0) := by unfold borrowA; rw [hh]; show pushA cs i d (d.tags.take (k + 1)) true = _; unfold pushA; rw [if_pos hfull]
      rw [hA]
      have HF := Lib.hid hfull
      clear h q1 q2 q3 hb0 HR hcall hA hh hok hm hd hk hd2 hfull
      go_enter Tryd.func21, Tryd.ntmps21
      go_wp2_with fail
      refine HC.out.mono ?_
      rintro E w1 ⟨A1, n1, c1, rfl, hR1, hb1⟩
      rw [HQ3.out] at hR1 hb1
      have hX1 := (hb1.block w.heap.size (by omega)).trans HQ1.out
      have hX2 := (hb1.block (w.heap.size + 1) (by omega)).trans HQ2.out
      have hz1 := hb1.size
      rw [HQ3.out] at hz1
      have hbb : Below w.heap.size w w1 := HB0.out.trans (hb1.mono (by omega))
      have y0 : w1.cell? ⟨w.heap.size, 0, none⟩ = some (.int .i64 (i : Int)) := (cell_of_block hX1 0).trans rfl
      have hP := l6Push_ok _ A1 A n1 c1 q c i (w.heap.size + 2) _ true w1 hR1 (by omega) HD2.out hn1 HF.out
      rw [list_set_set] at hP
      have HP := Lib.hid hP
      have HX2 := Lib.hid hX2
      clear hR1 hb1 hX1 hX2 hP
      go_wp2_with fail
      refine HP.out.mono ?_
      rintro E w2 ⟨A2, n2, c2, rfl, hR2, hb2⟩
      have hX3 := (hb2.block (w.heap.size + 1) (by omega)).trans HX2.out
      have x0 : w2.cell? ⟨w.heap.size + 1, 0, none⟩ = some (.int .i64 0) := (cell_of_block hX3 0).trans rfl
      have x1 : w2.cell? ⟨w.heap.size + 1, 1, none⟩ = some (.int .i64 0) := (cell_of_block hX3 1).trans rfl
      have f0 := frozen_of_block hX3 0
      have f1 := frozen_of_block hX3 1
      have HR2 := Lib.hid hR2
      have hbb2 : Below w.heap.size w w2 := hbb.trans (hb2.mono (by omega))
      clear hR2 hb2 hX3
      go_wp2_with fail
      refine bodyPost_ret (v := .tuple #[.slice A2 n2 c2, .agg #[.int .i64 (i : Int), .int .i64 d.next], .int .i64 0]) (by simp [results, Tryd.results21, go_sem, x0, x1]) rfl ⟨_, _, _, rfl, ((HR2.out.setLow (by omega)).setLow (by omega)).mono (by omega), ?_⟩
      exact (hbb2.setCell (by simp) _).setCell (by simp) _
    · have hA : borrowA cs i pt = (cs, (0, 0), 4) := by unfold borrowA; rw [hh]; show pushA cs i d (d.tags.take (k + 1)) true = _; unfold pushA; rw [if_neg hfull]
      rw [hA]
      have HF := Lib.hid hfull
      have HL := Lib.hid hl
      clear h q1 q2 q3 hb0 HR hcall hA hh hok hm hd hk hd2 hfull
      go_enter Tryd.func21, Tryd.ntmps21
      go_wp2_with fail
      refine HC.out.mono ?_
      rintro E w1 ⟨A1, n1, c1, rfl, hR1, hb1⟩
      rw [HQ3.out] at hR1 hb1
      have hX1 := (hb1.block w.heap.size (by omega)).trans HQ1.out
      have hX2 := (hb1.block (w.heap.size + 1) (by omega)).trans HQ2.out
      have hz1 := hb1.size
      rw [HQ3.out] at hz1
      have hbb : Below w.heap.size w w1 := HB0.out.trans (hb1.mono (by omega))
      have y0 : w1.cell? ⟨w.heap.size, 0, none⟩ = some (.int .i64 (i : Int)) := (cell_of_block hX1 0).trans rfl
      have hP := l6Push_full _ cs A1 A n1 c1 q c i (w.heap.size + 2) _ true w1 hR1 (by omega) HD2.out htl hn1 hnM (H.out.below hbb) HL.out HF.out
      have HP := Lib.hid hP
      have HX2 := Lib.hid hX2
      clear hR1 hb1 hX1 hX2 hP
      go_wp2_with fail
      refine HP.out.mono ?_
      rintro E w2 ⟨A2, n2, c2, rfl, hR2, hb2⟩
      have hX3 := (hb2.block (w.heap.size + 1) (by omega)).trans HX2.out
      have x0 : w2.cell? ⟨w.heap.size + 1, 0, none⟩ = some (.int .i64 0) := (cell_of_block hX3 0).trans rfl
      have x1 : w2.cell? ⟨w.heap.size + 1, 1, none⟩ = some (.int .i64 0) := (cell_of_block hX3 1).trans rfl
      have f0 := frozen_of_block hX3 0
      have f1 := frozen_of_block hX3 1
      have HR2 := Lib.hid hR2
      have hbb2 : Below w.heap.size w w2 := hbb.trans (hb2.mono (by omega))
      clear hR2 hb2 hX3
      go_wp2_with fail
      refine bodyPost_ret (v := .tuple #[.slice A2 n2 c2, .agg #[.int .i64 0, .int .i64 0], .int .i64 4]) (by simp [results, Tryd.results21, go_sem, x0, x1]) rfl ⟨_, _, _, rfl, ((HR2.out.setLow (by omega)).setLow (by omega)).mono (by omega), ?_⟩
      exact (hbb2.setCell (by simp) _).setCell (by simp) _

end Go.Proofs.YtnneamfndokleaaDoor
