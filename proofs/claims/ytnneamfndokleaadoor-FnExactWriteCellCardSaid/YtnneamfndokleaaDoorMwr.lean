/-
  A cell of a memory is written.
-/
import Derived.Test.YtnneamfndokleaaDoorAft4
import Derived.Test.YtnneamfndokleaaDoorMrd
import Derived.Test.YtnneamfndokleaaDoorCelB
namespace Go.Proofs.YtnneamfndokleaaDoor
open Go.RowKit Go.Deep
set_option linter.unusedVariables false

theorem ErrI.below_ {w w' : World} {ev : Value} (h : ErrI w ev) (hb : Below w.heap.size w w') : w'.cell? ⟨0, 0, none⟩ = some ev := (hb.cell (World.block_lt_of_cell? w _ h)).trans h

set_option maxRecDepth 100000 in
set_option maxHeartbeats 1000000 in
theorem write_num (v : Value) (x t y : Int) (w : World) (T : TypeId) (u : Value) (hy : ¬ (0 ≤ y ∧ y ≤ 9)) (hG : ErrI w (.iface T u)) :
    Calls Tryd.prog 38 #[v, .agg #[.int .i64 x, .int .i64 t], .int .i64 y] w fun E w' => E = .returned (.tuple #[v, .iface T u]) ∧ Below w.heap.size w w' := by
  have tn : decide (0 ≤ y ∧ y ≤ 9) = false := decide_eq_false hy
  have hb0 := (Below.refl w.heap.size w).alloc (Nat.le_refl _) (.cells #[.int .i64 x, .int .i64 t] 30)
  have hg : (w.alloc (.cells #[.int .i64 x, .int .i64 t] 30)).cell? ⟨0, 0, none⟩ = some (.iface T u) := ErrI.below_ hG hb0
  clear hG
  go_enter Tryd.func38, Tryd.ntmps38
  go_wp2_with fail
  refine (isNumber_any y _).mono ?_
  rintro E wn ⟨rfl, rfl⟩
  rw [tn]
  go_wp2_with fail
  go_quiet (fail)
  go_wp2_with fail
  exact bodyPost_ret (v := .tuple #[v, .iface T u]) (by simp [results, Tryd.results38, go_sem]) rfl ⟨rfl, by first | exact hb0 | exact below_drewN hb0 _⟩

set_option maxRecDepth 100000 in
set_option maxHeartbeats 1000000 in
theorem write_err (v : Value) (x t y : Int) (hy0 : 0 ≤ y) (hy9 : y ≤ 9) (w : World) (T : TypeId) (u : Value) (hr : ∀ w1, Below w.heap.size w w1 → Calls Tryd.prog 60 #[v, .agg #[.int .i64 x, .int .i64 t]] w1 fun E w' => E = .returned (.tuple #[.agg #[.int .i64 0, .bool false, .int .i64 0, .pointer none], .iface T u]) ∧ Below w1.heap.size w1 w') :
    Calls Tryd.prog 38 #[v, .agg #[.int .i64 x, .int .i64 t], .int .i64 y] w fun E w' => E = .returned (.tuple #[v, .iface T u]) ∧ Below w.heap.size w w' := by
  have tn : decide (0 ≤ y ∧ y ≤ 9) = true := decide_eq_true ⟨hy0, hy9⟩
  have hb0 := (Below.refl w.heap.size w).alloc (Nat.le_refl _) (.cells #[.int .i64 x, .int .i64 t] 30)
  have hX0 := heap_alloc_new w (.cells #[.int .i64 x, .int .i64 t] 30)
  have hc0 : (w.alloc (.cells #[.int .i64 x, .int .i64 t] 30)).cell? ⟨w.heap.size, 0, none⟩ = some (.int .i64 x) := (cell_of_block hX0 0).trans rfl
  have hc1 : (w.alloc (.cells #[.int .i64 x, .int .i64 t] 30)).cell? ⟨w.heap.size, 1, none⟩ = some (.int .i64 t) := (cell_of_block hX0 1).trans rfl
  have HR := Lib.hid (hr _ hb0)
  have HB0 := Lib.hid hb0
  clear hr hb0 hX0
  go_enter Tryd.func38, Tryd.ntmps38
  go_wp2_with fail
  refine (isNumber_any y _).mono ?_
  rintro E wn ⟨rfl, rfl⟩
  rw [tn]
  go_wp2_with fail
  refine HR.out.mono ?_
  rintro E w2 ⟨rfl, hb⟩
  have hbb : Below w.heap.size w w2 := HB0.out.trans (hb.mono (by simp))
  have hs := hbb.size
  clear hb hc0 hc1 HR
  go_wp2_with fail
  exact bodyPost_ret (v := .tuple #[v, .iface T u]) (by simp [results, Tryd.results38, go_sem]) rfl ⟨rfl, hbb.alloc hs _⟩

set_option maxRecDepth 100000 in
set_option maxHeartbeats 1000000 in
theorem write_ok (cs : List CellD) (A : Option Addr) (q c i : Nat) (t y : Int) (hy0 : 0 ≤ y) (hy9 : y ≤ 9) (d : CellD) (ts : List TagD) (w : World) (h : RdM w (.slice A q c) cs) (hd : cs[i]? = some d) (hl : q ≤ 1048600)
    (hr : ∀ w1, Below w.heap.size w w1 → Calls Tryd.prog 60 #[.slice A q c, .agg #[.int .i64 (i : Int), .int .i64 t]] w1 fun E w' => ∃ p, E = .returned (.tuple #[.agg #[.int .i64 d.val, .bool true, .int .i64 d.next, .pointer p], .nilIface]) ∧ Stk w' w'.heap.size ts.reverse p ∧ Below w1.heap.size w1 w') :
    Calls Tryd.prog 38 #[.slice A q c, .agg #[.int .i64 (i : Int), .int .i64 t], .int .i64 y] w (BackPost w (cs.set i ⟨y, true, d.next, ts⟩)) := by
  have tn : decide (0 ≤ y ∧ y ≤ 9) = true := decide_eq_true ⟨hy0, hy9⟩
  have hb0 := (Below.refl w.heap.size w).alloc (Nat.le_refl _) (.cells #[.int .i64 (i : Int), .int .i64 t] 30)
  have hX0 := heap_alloc_new w (.cells #[.int .i64 (i : Int), .int .i64 t] 30)
  have hc0 : (w.alloc (.cells #[.int .i64 (i : Int), .int .i64 t] 30)).cell? ⟨w.heap.size, 0, none⟩ = some (.int .i64 (i : Int)) := (cell_of_block hX0 0).trans rfl
  have hc1 : (w.alloc (.cells #[.int .i64 (i : Int), .int .i64 t] 30)).cell? ⟨w.heap.size, 1, none⟩ = some (.int .i64 t) := (cell_of_block hX0 1).trans rfl
  have hiq : i < q := by have := (List.getElem?_eq_some_iff.1 hd).1; have := h.len.1; omega
  have hz : (w.alloc (.cells #[.int .i64 (i : Int), .int .i64 t] 30)).heap.size = w.heap.size + 1 := by simp
  have HR := Lib.hid (hr _ hb0)
  have HB0 := Lib.hid hb0
  have HX0 := Lib.hid hX0
  have HZ := Lib.hid hz
  have H := Lib.hid h
  clear hr hb0 hX0 hz h
  go_enter Tryd.func38, Tryd.ntmps38
  go_wp2_with fail
  refine (isNumber_any y _).mono ?_
  rintro E wn ⟨rfl, rfl⟩
  rw [tn]
  go_wp2_with fail
  refine HR.out.mono ?_
  rintro E w2 ⟨p, rfl, hst, hb⟩
  rw [HZ.out] at hb
  have hbb : Below w.heap.size w w2 := HB0.out.trans (hb.mono (by omega))
  have hs := hb.size
  rw [HZ.out] at hs
  have hba := (Below.refl w2.heap.size w2).alloc (Nat.le_refl _) (.cells #[.int .i64 d.val, .bool true, .int .i64 d.next, .pointer p] 89)
  have hN := (hba.block w.heap.size (by omega)).trans ((hb.block w.heap.size (by omega)).trans HX0.out)
  have hT := heap_alloc_new w2 (.cells #[.int .i64 d.val, .bool true, .int .i64 d.next, .pointer p] 89)
  have hst2 := (hst.below hba (Nat.le_refl _)).mono hba.size
  have hbb2 : Below w.heap.size w (w2.alloc (.cells #[.int .i64 d.val, .bool true, .int .i64 d.next, .pointer p] 89)) := hbb.alloc (by omega) _
  have HN := Lib.hid hN
  have HT := Lib.hid hT
  have HST := Lib.hid hst2
  have HBB := Lib.hid hbb2
  clear hb hN hT hba hst hst2 hbb hbb2 hc0 hc1 HR
  go_upto_region 6 with fail
  obtain ⟨W2, hW2⟩ : ∃ x, w2.alloc (.cells #[.int .i64 d.val, .bool true, .int .i64 d.next, .pointer p] 89) = x := ⟨_, rfl⟩
  rw [hW2] at HN HT HST HBB ⊢
  have t0 := (cell_of_block HT.out 0).trans (show _ = some (.int .i64 d.val) from rfl)
  have t1 := (cell_of_block HT.out 1).trans (show _ = some (.bool true) from rfl)
  have g1 := frozen_of_block HT.out 0
  have hTs := set_keeps HT.out 0 (.int .i64 y)
  have hbs : Below w.heap.size w (W2.setCell ⟨w2.heap.size, 0, none⟩ (.int .i64 y)) := HBB.out.setCell (by show w.heap.size ≤ w2.heap.size; omega) _
  have hss := Stk.setType HST.out HT.out (by decide) 0 (.int .i64 y)
  have hNs : (W2.setCell ⟨w2.heap.size, 0, none⟩ (.int .i64 y)).heap[w.heap.size]? = some (.cells #[.int .i64 (i : Int), .int .i64 t] 30 (0, 0)) := (heap_set (show w.heap.size ≠ w2.heap.size by omega)).trans HN.out
  have hsz : (W2.setCell ⟨w2.heap.size, 0, none⟩ (.int .i64 y)).heap.size = W2.heap.size := by simp [World.setCell]
  go_upto_region 7 with fail
  clear t0 t1 g1
  have hx0 := (cell_of_block hNs 0).trans (show _ = some (.int .i64 (i : Int)) from rfl)
  have y0 := (cell_of_block hTs 0).trans (show _ = some (.int .i64 y) from rfl)
  have y1 := (cell_of_block hTs 1).trans (show _ = some (.bool true) from rfl)
  have y2 := (cell_of_block hTs 2).trans (show _ = some (.int .i64 d.next) from rfl)
  have y3 := (cell_of_block hTs 3).trans (show _ = some (.pointer p) from rfl)
  obtain ⟨W3, hW3⟩ : ∃ x, W2.setCell ⟨w2.heap.size, 0, none⟩ (.int .i64 y) = x := ⟨_, rfl⟩
  rw [hW3] at hbs hss hx0 y0 y1 y2 y3 hsz ⊢
  rw [← hsz] at hss
  have HM := Lib.hid (H.out.below hbs)
  clear hTs hNs hW3 hW2
  go_wp2_with fail
  refine (with_any cs A q c i ⟨y, true, d.next, ts⟩ p W3 HM.out hl hiq hss).mono ?_
  rintro E w' ⟨vv, rfl, hM, hbn⟩
  have hbf : Below w.heap.size w w' := hbs.trans (hbn.mono hbs.size)
  have HM2 := Lib.hid (hM.mono hbs.size)
  clear hbn hM hbs hss hx0 y0 y1 y2 y3
  go_wp2_with fail
  exact bodyPost_ret (v := .tuple #[vv, .nilIface]) (by simp [results, Tryd.results38, go_sem]) rfl ⟨_, rfl, HM2.out, hbf⟩

end Go.Proofs.YtnneamfndokleaaDoor
