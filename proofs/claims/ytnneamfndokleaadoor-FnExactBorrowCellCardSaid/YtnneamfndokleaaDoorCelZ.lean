/-
  Writing, freeing, and new tags, by the model.
-/
import Derived.Test.YtnneamfndokleaaDoorCelY
import Derived.Test.YtnneamfndokleaaDoorCelU
namespace Go.Proofs.YtnneamfndokleaaDoor
open Go.RowKit Go.Deep
set_option linter.unusedVariables false

/-- What l6Write answers, in one. -/
theorem l6Write_any (cs : List CellD) (A : Option Addr) (q c : Nat) (pc pt : Int) (w : World) (h : RdC w (.slice A q c) cs) (hl : cs.length + tagSum cs ≤ 1048600) :
    (∀ e, hitW cs pc pt = .error e → e ≠ 0 ∧ Calls Tryd.prog 35 #[.slice A q c, .agg #[.int .i64 pc, .int .i64 pt]] w (Post2 cs e w)) ∧
    (∀ i k d, hitW cs pc pt = .ok (i, k, d) → Calls Tryd.prog 35 #[.slice A q c, .agg #[.int .i64 pc, .int .i64 pt]] w (Post2 (cs.set i { d with tags := d.tags.take (k + 1) }) 0 w)) := by
  refine ⟨fun e he => ?_, fun i k d hk => ?_⟩
  · rcases hitW_error he with h1 | ⟨rfl, i, k, d, h1, hu⟩
    · exact ⟨(l6Place_err cs A q c pc pt e w h h1).2, l6Write_err cs A q c pc pt e w h hl h1⟩
    · exact ⟨by decide, l6Write_ro cs A q c pc pt i k d w h hl h1 hu⟩
  · obtain ⟨h1, hu⟩ := hitW_ok hk
    exact l6Write_ok cs A q c pc pt i k d w h hl h1 hu

set_option maxRecDepth 100000 in
set_option maxHeartbeats 4000000 in
theorem specWriteCell_any (cs : List CellD) (A : Option Addr) (q c : Nat) (pc pt v : Int) (w : World) (h : RdC w (.slice A q c) cs) (hl : cs.length + tagSum cs ≤ 1048600) :
    Calls Tryd.prog 16 #[.slice A q c, .agg #[.int .i64 pc, .int .i64 pt], .int .i64 v] w (Post2 (writeA cs pc pt v).1 (writeA cs pc pt v).2 w) := by
  have H := Lib.hid h
  have hbw : ∀ o, Below w.heap.size w (w.alloc o) := fun o => (Below.refl w.heap.size w).alloc (Nat.le_refl _) o
  have HBW := Lib.hid hbw
  have hX := heap_alloc_new w (.cells #[.int .i64 pc, .int .i64 pt] 30)
  have hz : (w.alloc (.cells #[.int .i64 pc, .int .i64 pt] 30)).heap.size = w.heap.size + 1 := by simp
  have HX := Lib.hid hX
  have HZ := Lib.hid hz
  have hWr := l6Write_any cs A q c pc pt _ (h.below (hbw (.cells #[.int .i64 pc, .int .i64 pt] 30))) hl
  clear h hbw hX hz
  by_cases hv : 0 ≤ v ∧ v ≤ 9
  · have t1 : decide (v < 0) = false := decide_eq_false (by omega)
    have t2 : decide (9 < v) = false := decide_eq_false (by omega)
    cases hh : hitW cs pc pt with
    | error e =>
      have hA : writeA cs pc pt v = (cs, e) := by unfold writeA; rw [if_pos hv, hh]
      rw [hA]
      obtain ⟨he0, hcall⟩ := hWr.1 e hh
      have he1 : ((e : Int) == 0) = false := by simpa using he0
      have HC := Lib.hid hcall
      clear hWr hcall hA hh hv
      go_enter Tryd.func16, Tryd.ntmps16
      go_wp2_with fail
      refine HC.out.mono ?_
      rintro E w1 ⟨A1, n1, c1, rfl, hR1, hb1⟩
      rw [HZ.out] at hR1 hb1
      have HR1 := Lib.hid (hR1.mono (show w.heap.size ≤ w.heap.size + 1 by omega))
      have hbb : Below w.heap.size w w1 := (HBW.out _).trans (hb1.mono (by omega))
      clear hR1 hb1
      go_wp2_with fail
      go_ret2
      exact ⟨A1, n1, c1, rfl, HR1.out, hbb⟩
    | ok r =>
      obtain ⟨i, k, d⟩ := r
      have hA : writeA cs pc pt v = (cs.set i { d with val := v, tags := d.tags.take (k + 1) }, 0) := by unfold writeA; rw [if_pos hv, hh]
      rw [hA]
      have hcall := hWr.2 i k d hh
      obtain ⟨hm, hc, hd, -, -⟩ := hit_ok (hitW_ok hh).1
      have hil := (List.getElem?_eq_some_iff.1 hd).1
      subst hc
      have HC := Lib.hid hcall
      have HD := Lib.hid hd
      clear hWr hcall hA hh hv hm hd
      go_enter Tryd.func16, Tryd.ntmps16
      go_wp2_with fail
      refine HC.out.mono ?_
      rintro E w1 ⟨A1, n1, c1, rfl, hR1, hb1⟩
      rw [HZ.out] at hR1 hb1
      obtain ⟨g, Au, cu, rfl, hat⟩ := (hR1.mono (show w.heap.size ≤ w.heap.size + 1 by omega)).at_ (i := i) (d := { d with tags := d.tags.take (k + 1) }) (by rw [List.getElem?_set_self hil])
      have hbb : Below w.heap.size w w1 := (HBW.out _).trans (hb1.mono (by omega))
      have hXw := (hb1.block w.heap.size (by omega)).trans HX.out
      have x0 : w1.cell? ⟨w.heap.size, 0, none⟩ = some (.int .i64 (i : Int)) := (cell_of_block hXw 0).trans rfl
      have hin : i < n1 := by rw [hat.len]; simpa using hil
      have hmx := hat.max
      have hcp := hat.cap
      unfold maxLen at hmx
      have k0 := hat.c0
      have kf := hat.fz (i * 4)
      have HP := Lib.hid (hat.put0 v)
      have hgb := hat.bg
      clear hR1 hb1 hXw hat
      go_wp2_with fail
      go_ret2
      refine ⟨_, n1, c1, rfl, ?_, hbb.setCell hgb _⟩
      have := HP.out
      rw [list_set_set] at this
      exact this
  · have hA : writeA cs pc pt v = (cs, 4) := by unfold writeA; rw [if_neg hv]
    rw [hA]
    clear hA hWr
    by_cases h0 : v < 0
    · have t1 : decide (v < 0) = true := decide_eq_true h0
      go_enter Tryd.func16, Tryd.ntmps16
      go_wp2_with fail
      refine (l6Copy_any cs A q c _ (H.out.below (HBW.out _)) hl).mono ?_
      rintro E w1 ⟨v1, rfl, hR1, hb1⟩
      rw [HZ.out] at hR1 hb1
      obtain ⟨A1, c1, hv1, -⟩ := hR1.form
      subst hv1
      have HR1 := Lib.hid (hR1.mono (show w.heap.size ≤ w.heap.size + 1 by omega))
      have hbb : Below w.heap.size w w1 := (HBW.out _).trans (hb1.mono (by omega))
      clear hR1 hb1
      go_wp2_with fail
      go_ret2
      exact ⟨_, _, _, rfl, HR1.out, hbb⟩
    · have t1 : decide (v < 0) = false := decide_eq_false h0
      have t2 : decide (9 < v) = true := decide_eq_true (by omega)
      go_enter Tryd.func16, Tryd.ntmps16
      go_wp2_with fail
      refine (l6Copy_any cs A q c _ (H.out.below (HBW.out _)) hl).mono ?_
      rintro E w1 ⟨v1, rfl, hR1, hb1⟩
      rw [HZ.out] at hR1 hb1
      obtain ⟨A1, c1, hv1, -⟩ := hR1.form
      subst hv1
      have HR1 := Lib.hid (hR1.mono (show w.heap.size ≤ w.heap.size + 1 by omega))
      have hbb : Below w.heap.size w w1 := (HBW.out _).trans (hb1.mono (by omega))
      clear hR1 hb1
      go_wp2_with fail
      go_ret2
      exact ⟨_, _, _, rfl, HR1.out, hbb⟩

end Go.Proofs.YtnneamfndokleaaDoor
