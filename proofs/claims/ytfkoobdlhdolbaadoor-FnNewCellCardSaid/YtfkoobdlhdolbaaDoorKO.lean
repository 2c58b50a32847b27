/-
  The accesses of the program and of the model, over the pure ones.
-/
import Derived.Test.YtfkoobdlhdolbaaDoorChg
import Derived.Test.YtfkoobdlhdolbaaDoorAft4
import Derived.Test.YtfkoobdlhdolbaaDoorMrd
import Derived.Test.YtfkoobdlhdolbaaDoorCelB
import Derived.Test.YtfkoobdlhdolbaaDoorUpT
import Derived.Test.YtfkoobdlhdolbaaDoorAccD
import Derived.Test.YtfkoobdlhdolbaaDoorCelR
import Derived.Deep.QuietTactic
import Derived.BigQuiet
import Derived.WalkSmall
import Derived.Test.YtfkoobdlhdolbaaDoorShd
import Derived.Test.YtfkoobdlhdolbaaDoorBod
import Derived.Test.YtfkoobdlhdolbaaDoorKA
import Derived.Test.YtfkoobdlhdolbaaDoorKB
import Derived.Test.YtfkoobdlhdolbaaDoorKD
import Derived.Deep.RegionHeld3
namespace Go.Proofs.YtfkoobdlhdolbaaDoor
open Go.RowKit Go.Deep
set_option linter.unusedVariables false

set_option maxRecDepth 100000 in
set_option maxHeartbeats 1000000 in
theorem changed_write (cs m2 : List CellD) (A : Option Addr) (q c : Nat) (b1 b2 : Value) (ev : Value) (k : Int) (w : World) (h : RdC w (.slice A q c) cs) (hl : cs.length + tagSum cs ≤ 1048590) (hl2 : m2.length + tagSum m2 ≤ 1048600) (hB : memB cs = true)
    (hcl : ∀ w1 A1 c1, Below w.heap.size w w1 → RdM w1 (.slice A1 cs.length c1) cs → Calls Tryd.prog 53 #[.slice A1 cs.length c1, b1, b2] w1 fun E w' => ∃ v', E = .returned (.tuple #[v', ev]) ∧ RdM w' v' m2 ∧ Below w1.heap.size w1 w')
    (hcode : ∀ w1, Below w.heap.size w w1 → Calls Tryd.prog 81 #[ev] w1 fun E w' => E = .returned (.int .i64 k) ∧ w' = w1) :
    Calls Tryd.prog 52 #[.slice A q c, .func (.func 53) #[] #[b1, b2]] w (ChgPost w m2 k) := by
  obtain ⟨hq, hc1, hc2⟩ := h.len
  subst hq
  have H := Lib.hid h
  have HL := Lib.hid hl
  have HB := Lib.hid hB
  have HCL := Lib.hid hcl
  have HCO := Lib.hid hcode
  clear h hl hB hcl hcode
  go_enter Tryd.func52, Tryd.ntmps52
  go_wp2_with fail
  refine (memoryOf_any cs A cs.length c w H.out (by have := HL.out; omega)).mono ?_
  rintro E w2 ⟨v2, rfl, hM2, hb2⟩
  obtain ⟨A2, c2, hv2, -, -, -⟩ := hM2.reads
  subst hv2
  have HM2 := Lib.hid hM2.reads
  have HB2 := Lib.hid hb2
  clear hb2 hM2
  go_wp2_with fail
  refine (implCellsValid_any cs A cs.length c w2 (H.out.below HB2.out)).mono ?_
  rintro E w3 ⟨rfl, hb3⟩
  rw [HB.out]
  have hs := HB2.out.size
  have hbb3 : Below w.heap.size w w3 := HB2.out.trans (hb3.mono hs)
  have HM3 := Lib.hid (HM2.out.below hb3)
  clear hb3
  go_wp2_with fail
  refine (HCL.out w3 A2 c2 hbb3 HM3.out).mono ?_
  rintro E w4 ⟨v4, rfl, hM4, hb4⟩
  have hbb4 : Below w.heap.size w w4 := hbb3.trans (hb4.mono hbb3.size)
  have hM4' := hM4
  obtain ⟨A4, c4, hv4, -, -, -⟩ := hM4
  subst hv4
  have HM4 := Lib.hid hM4'
  clear hb4 hbb3 hM4'
  go_wp2_with fail
  refine (plain_any m2 A4 m2.length c4 w4 HM4.out hl2).mono ?_
  rintro E w5 ⟨v5, rfl, hR, hb5⟩
  obtain ⟨A5, n5, c5, hv5⟩ := rowC_form hR
  subst hv5
  have hbb5 : Below w.heap.size w w5 := hbb4.trans (hb5.mono hbb4.size)
  have HR := Lib.hid (hR.mono hbb4.size)
  clear hR hb5
  go_wp2_with fail
  refine (HCO.out w5 hbb5).mono ?_
  rintro E w6 ⟨rfl, rfl⟩
  go_wp2_with fail
  exact bodyPost_ret (v := .tuple #[.slice A5 n5 c5, .int .i64 k]) (by simp [results, Tryd.results52, go_sem]) rfl ⟨_, _, _, rfl, HR.out, hbb5⟩

theorem ErrI.below_ {w w' : World} {ev : Value} (h : ErrI w ev) (hb : Below w.heap.size w w') : w'.cell? ⟨0, 0, none⟩ = some ev := (hb.cell (World.block_lt_of_cell? w _ h)).trans h

set_option maxRecDepth 100000 in
set_option maxHeartbeats 1000000 in
theorem write_num (v : Value) (x t y : Int) (w : World) (T : TypeId) (u : Value) (hy : ¬ (0 ≤ y ∧ y ≤ 9)) (hG : ErrI w (.iface T u)) :
    Calls Tryd.prog 54 #[v, .agg #[.int .i64 x, .int .i64 t], .int .i64 y] w fun E w' => E = .returned (.tuple #[v, .iface T u]) ∧ Below w.heap.size w w' := by
  have tn : decide (0 ≤ y ∧ y ≤ 9) = false := decide_eq_false hy
  have hb0 := (Below.refl w.heap.size w).alloc (Nat.le_refl _) (.cells #[.int .i64 x, .int .i64 t] 25)
  have hg : (w.alloc (.cells #[.int .i64 x, .int .i64 t] 25)).cell? ⟨0, 0, none⟩ = some (.iface T u) := ErrI.below_ hG hb0
  clear hG
  go_enter Tryd.func54, Tryd.ntmps54
  go_wp2_with fail
  refine (isNumber_any y _).mono ?_
  rintro E wn ⟨rfl, rfl⟩
  rw [tn]
  go_wp2_with fail
  go_quiet (fail)
  go_wp2_with fail
  exact bodyPost_ret (v := .tuple #[v, .iface T u]) (by simp [results, Tryd.results54, go_sem]) rfl ⟨rfl, by first | exact hb0 | exact below_drewN hb0 _⟩

set_option maxRecDepth 100000 in
set_option maxHeartbeats 1000000 in
theorem write_err (v : Value) (x t y : Int) (hy0 : 0 ≤ y) (hy9 : y ≤ 9) (w : World) (T : TypeId) (u : Value) (hr : ∀ w1, Below w.heap.size w w1 → Calls Tryd.prog 82 #[v, .agg #[.int .i64 x, .int .i64 t]] w1 fun E w' => E = .returned (.tuple #[.agg #[.int .i64 0, .bool false, .int .i64 0, .pointer none], .iface T u]) ∧ Below w1.heap.size w1 w') :
    Calls Tryd.prog 54 #[v, .agg #[.int .i64 x, .int .i64 t], .int .i64 y] w fun E w' => E = .returned (.tuple #[v, .iface T u]) ∧ Below w.heap.size w w' := by
  have tn : decide (0 ≤ y ∧ y ≤ 9) = true := decide_eq_true ⟨hy0, hy9⟩
  have hb0 := (Below.refl w.heap.size w).alloc (Nat.le_refl _) (.cells #[.int .i64 x, .int .i64 t] 25)
  have hX0 := heap_alloc_new w (.cells #[.int .i64 x, .int .i64 t] 25)
  have hc0 : (w.alloc (.cells #[.int .i64 x, .int .i64 t] 25)).cell? ⟨w.heap.size, 0, none⟩ = some (.int .i64 x) := (cell_of_block hX0 0).trans rfl
  have hc1 : (w.alloc (.cells #[.int .i64 x, .int .i64 t] 25)).cell? ⟨w.heap.size, 1, none⟩ = some (.int .i64 t) := (cell_of_block hX0 1).trans rfl
  have HR := Lib.hid (hr _ hb0)
  have HB0 := Lib.hid hb0
  clear hr hb0 hX0
  go_enter Tryd.func54, Tryd.ntmps54
  go_wp2_with fail
  refine (isNumber_any y _).mono ?_
  rintro E wn ⟨rfl, rfl⟩
  rw [tn]
  go_wp2_with fail
  refine HR.out.mono ?_
  rintro E w2 ⟨rfl, hb⟩
  have hbb : Below w.heap.size w w2 := HB0.out.trans (hb.mono (by simp))
  have hs := hbb.size
  clear hb hc0 hc1 HR
  go_wp2_with fail
  exact bodyPost_ret (v := .tuple #[v, .iface T u]) (by simp [results, Tryd.results54, go_sem]) rfl ⟨rfl, hbb.alloc hs _⟩

set_option maxRecDepth 100000 in
set_option maxHeartbeats 1000000 in
theorem write_ok (cs : List CellD) (A : Option Addr) (q c i : Nat) (t y : Int) (hy0 : 0 ≤ y) (hy9 : y ≤ 9) (d : CellD) (ts : List TagD) (w : World) (h : RdM w (.slice A q c) cs) (hd : cs[i]? = some d) (hl : q ≤ 1048600)
    (hr : ∀ w1, Below w.heap.size w w1 → Calls Tryd.prog 82 #[.slice A q c, .agg #[.int .i64 (i : Int), .int .i64 t]] w1 fun E w' => ∃ p, E = .returned (.tuple #[.agg #[.int .i64 d.val, .bool true, .int .i64 d.next, .pointer p], .nilIface]) ∧ Stk w' w'.heap.size ts.reverse p ∧ Below w1.heap.size w1 w') :
    Calls Tryd.prog 54 #[.slice A q c, .agg #[.int .i64 (i : Int), .int .i64 t], .int .i64 y] w (BackPost w (cs.set i ⟨y, true, d.next, ts⟩)) := by
  have tn : decide (0 ≤ y ∧ y ≤ 9) = true := decide_eq_true ⟨hy0, hy9⟩
  have hb0 := (Below.refl w.heap.size w).alloc (Nat.le_refl _) (.cells #[.int .i64 (i : Int), .int .i64 t] 25)
  have hX0 := heap_alloc_new w (.cells #[.int .i64 (i : Int), .int .i64 t] 25)
  have hc0 : (w.alloc (.cells #[.int .i64 (i : Int), .int .i64 t] 25)).cell? ⟨w.heap.size, 0, none⟩ = some (.int .i64 (i : Int)) := (cell_of_block hX0 0).trans rfl
  have hc1 : (w.alloc (.cells #[.int .i64 (i : Int), .int .i64 t] 25)).cell? ⟨w.heap.size, 1, none⟩ = some (.int .i64 t) := (cell_of_block hX0 1).trans rfl
  have hiq : i < q := by have := (List.getElem?_eq_some_iff.1 hd).1; have := h.len.1; omega
  have hz : (w.alloc (.cells #[.int .i64 (i : Int), .int .i64 t] 25)).heap.size = w.heap.size + 1 := by simp
  have HR := Lib.hid (hr _ hb0)
  have HB0 := Lib.hid hb0
  have HX0 := Lib.hid hX0
  have HZ := Lib.hid hz
  have H := Lib.hid h
  clear hr hb0 hX0 hz h
  go_enter Tryd.func54, Tryd.ntmps54
  go_wp2_with fail
  refine (isNumber_any y _).mono ?_
  rintro E wn ⟨rfl, rfl⟩
  rw [tn]
  go_wp2_with fail
  refine HR.out.mono ?_
  rintro E w2 ⟨p, rfl, hst, hb⟩
  rw [HZ.out] at hb
  have hbb : Below w.heap.size w w2 := HB0.out.trans (hb.mono (by omega))
  have hs := hb.size
  rw [HZ.out] at hs
  have hba := (Below.refl w2.heap.size w2).alloc (Nat.le_refl _) (.cells #[.int .i64 d.val, .bool true, .int .i64 d.next, .pointer p] 96)
  have hN := (hba.block w.heap.size (by omega)).trans ((hb.block w.heap.size (by omega)).trans HX0.out)
  have hT := heap_alloc_new w2 (.cells #[.int .i64 d.val, .bool true, .int .i64 d.next, .pointer p] 96)
  have hst2 := (hst.below hba (Nat.le_refl _)).mono hba.size
  have hbb2 : Below w.heap.size w (w2.alloc (.cells #[.int .i64 d.val, .bool true, .int .i64 d.next, .pointer p] 96)) := hbb.alloc (by omega) _
  have HN := Lib.hid hN
  have HT := Lib.hid hT
  have HST := Lib.hid hst2
  have HBB := Lib.hid hbb2
  clear hb hN hT hba hst hst2 hbb hbb2 hc0 hc1 HR
  go_upto_region 6 with fail
  obtain ⟨W2, hW2⟩ : ∃ x, w2.alloc (.cells #[.int .i64 d.val, .bool true, .int .i64 d.next, .pointer p] 96) = x := ⟨_, rfl⟩
  rw [hW2] at HN HT HST HBB ⊢
  have t0 := (cell_of_block HT.out 0).trans (show _ = some (.int .i64 d.val) from rfl)
  have t1 := (cell_of_block HT.out 1).trans (show _ = some (.bool true) from rfl)
  have g1 := frozen_of_block HT.out 0
  have hTs := set_keeps HT.out 0 (.int .i64 y)
  have hbs : Below w.heap.size w (W2.setCell ⟨w2.heap.size, 0, none⟩ (.int .i64 y)) := HBB.out.setCell (by show w.heap.size ≤ w2.heap.size; omega) _
  have hss := Stk.setType HST.out HT.out (by decide) 0 (.int .i64 y)
  have hNs : (W2.setCell ⟨w2.heap.size, 0, none⟩ (.int .i64 y)).heap[w.heap.size]? = some (.cells #[.int .i64 (i : Int), .int .i64 t] 25 (0, 0)) := (heap_set (show w.heap.size ≠ w2.heap.size by omega)).trans HN.out
  have hsz : (W2.setCell ⟨w2.heap.size, 0, none⟩ (.int .i64 y)).heap.size = W2.heap.size := by simp [World.setCell]
  go_upto_region 7 with fail
  clear t0 t1 g1
  have hx0 := (cell_of_block hNs 0).trans (show _ = some (.int .i64 (i : Int)) from rfl)
  have y0 := (cell_of_block hTs 0).trans (show _ = some (.int .i64 y) from rfl)
  have y1 := (cell_of_block hTs 1).trans (show _ = some (.bool true) from rfl)
  have y2 := (cell_of_block hTs 2).trans (show _ = some (.int .i64 d.next) from rfl)
  have y3 := (cell_of_block hTs 3).trans (show _ = some (.pointer p) from rfl)
  obtain ⟨W3, hW3⟩ : ∃ x, W2.setCell ⟨w2.heap.size, 0, none⟩ (.int .i64 y) = x := ⟨_, rfl⟩
  rw [hW3] at hbs hss hx0 y0 y1 y2 y3 hsz ⊢
  rw [← hsz] at hss
  have HM := Lib.hid (H.out.below hbs)
  clear hTs hNs hW3 hW2
  go_wp2_with fail
  refine (with_any cs A q c i ⟨y, true, d.next, ts⟩ p W3 HM.out hl hiq hss).mono ?_
  rintro E w' ⟨vv, rfl, hM, hbn⟩
  have hbf : Below w.heap.size w w' := hbs.trans (hbn.mono hbs.size)
  have HM2 := Lib.hid (hM.mono hbs.size)
  clear hbn hM hbs hss hx0 y0 y1 y2 y3
  go_wp2_with fail
  exact bodyPost_ret (v := .tuple #[vv, .nilIface]) (by simp [results, Tryd.results54, go_sem]) rfl ⟨_, rfl, HM2.out, hbf⟩

set_option maxRecDepth 100000 in
set_option maxHeartbeats 1000000 in
theorem writeCell1_any (v : Value) (a b : Nat) (x t y : Int) (m2 : List CellD) (ev : Value) (w : World) (h0 : w.cell? ⟨a, 0, none⟩ = some (.int .i64 x)) (h1 : w.cell? ⟨a, 1, none⟩ = some (.int .i64 t)) (h2 : w.cell? ⟨b, 0, none⟩ = some (.int .i64 y))
    (hr : Calls Tryd.prog 54 #[v, .agg #[.int .i64 x, .int .i64 t], .int .i64 y] w (MemPost w m2 ev)) :
    Calls Tryd.prog 53 #[v, .pointer (some ⟨a, 0, none⟩), .pointer (some ⟨b, 0, none⟩)] w (MemPost w m2 ev) := by
  have HR := Lib.hid hr
  clear hr
  go_enter Tryd.func53, Tryd.ntmps53
  go_wp2_with fail
  refine HR.out.mono ?_
  rintro E w2 ⟨v2, rfl, hM, hb⟩
  clear h0 h1 h2 HR
  go_wp2_with fail
  exact bodyPost_ret (v := .tuple #[v2, ev]) (by simp [results, Tryd.results53, go_sem]) rfl ⟨v2, rfl, hM, hb⟩

set_option maxRecDepth 100000 in
set_option maxHeartbeats 1000000 in
theorem implWriteCell_bad (cs : List CellD) (A : Option Addr) (q c : Nat) (x t y : Int) (w : World) (h : RdC w (.slice A q c) cs) (hl : cs.length + tagSum cs ≤ 1048590) (hB : memB cs = false) :
    Calls Tryd.prog 21 #[.slice A q c, .agg #[.int .i64 x, .int .i64 t], .int .i64 y] w (ChgPost w cs 4) := by
  have hb0 := ((Below.refl w.heap.size w).alloc (Nat.le_refl _) (.cells #[.int .i64 x, .int .i64 t] 25)).alloc (by simp) (.cells #[.int .i64 y] 3)
  have HB0 := Lib.hid hb0
  have HC := Lib.hid (changed_bad cs A q c (.func (.func 53) #[] #[.pointer (some ⟨w.heap.size, 0, none⟩), .pointer (some ⟨w.heap.size + 1, 0, none⟩)]) _ (h.below hb0) hl hB)
  clear h hl hB hb0
  go_enter Tryd.func21, Tryd.ntmps21
  go_wp2_with fail
  refine HC.out.mono ?_
  rintro E w2 ⟨A2, n2, c2, rfl, hR, hb⟩
  have hs := HB0.out.size
  have HR := Lib.hid (hR.mono hs)
  have hbf := HB0.out.trans (hb.mono hs)
  clear hR hb HC
  go_wp2_with fail
  exact bodyPost_ret (v := .tuple #[.slice A2 n2 c2, .int .i64 4]) (by simp [results, Tryd.results21, go_sem]) rfl ⟨_, _, _, rfl, HR.out, hbf⟩

set_option maxRecDepth 100000 in
set_option maxHeartbeats 1000000 in
theorem implWriteCell_gen (cs m2 : List CellD) (A : Option Addr) (q c : Nat) (x t y : Int) (ev : Value) (k : Int) (w : World) (h : RdC w (.slice A q c) cs) (hl : cs.length + tagSum cs ≤ 1048590) (hl2 : m2.length + tagSum m2 ≤ 1048600) (hB : memB cs = true)
    (hcl : ∀ w1 A1 c1, Below w.heap.size w w1 → RdM w1 (.slice A1 cs.length c1) cs → Calls Tryd.prog 54 #[.slice A1 cs.length c1, .agg #[.int .i64 x, .int .i64 t], .int .i64 y] w1 (MemPost w1 m2 ev))
    (hcode : ∀ w1, Below w.heap.size w w1 → Calls Tryd.prog 81 #[ev] w1 fun E w' => E = .returned (.int .i64 k) ∧ w' = w1) :
    Calls Tryd.prog 21 #[.slice A q c, .agg #[.int .i64 x, .int .i64 t], .int .i64 y] w (ChgPost w m2 k) := by
  have hb0 := ((Below.refl w.heap.size w).alloc (Nat.le_refl _) (.cells #[.int .i64 x, .int .i64 t] 25)).alloc (by simp) (.cells #[.int .i64 y] 3)
  have hX := alloc2_first w (.cells #[.int .i64 x, .int .i64 t] 25) (.cells #[.int .i64 y] 3)
  have hX2 := alloc2_second w (.cells #[.int .i64 x, .int .i64 t] 25) (.cells #[.int .i64 y] 3)
  have hz : ((w.alloc (.cells #[.int .i64 x, .int .i64 t] 25)).alloc (.cells #[.int .i64 y] 3)).heap.size = w.heap.size + 2 := by simp
  have hs := hb0.size
  have HB0 := Lib.hid hb0
  have HC := Lib.hid (changed_write cs m2 A q c (.pointer (some ⟨w.heap.size, 0, none⟩)) (.pointer (some ⟨w.heap.size + 1, 0, none⟩)) ev k _ (h.below hb0) hl hl2 hB (fun w1 A1 c1 hb hM => by
    have hY := (hb.block w.heap.size (by omega)).trans hX
    have hY2 := (hb.block (w.heap.size + 1) (by omega)).trans hX2
    exact writeCell1_any _ _ _ x t y m2 ev w1 ((cell_of_block hY 0).trans rfl) ((cell_of_block hY 1).trans rfl) ((cell_of_block hY2 0).trans rfl) (hcl w1 A1 c1 (hb0.trans (hb.mono hs)) hM)) (fun w1 hb => hcode w1 (hb0.trans (hb.mono hs))))
  clear h hl hB hb0 hX hX2 hcl hcode hz hs
  go_enter Tryd.func21, Tryd.ntmps21
  go_wp2_with fail
  refine HC.out.mono ?_
  rintro E w2 ⟨A2, n2, c2, rfl, hR, hb⟩
  have hs := HB0.out.size
  have HR := Lib.hid (hR.mono hs)
  have hbf := HB0.out.trans (hb.mono hs)
  clear hR hb HC
  go_wp2_with fail
  exact bodyPost_ret (v := .tuple #[.slice A2 n2 c2, .int .i64 k]) (by simp [results, Tryd.results21, go_sem]) rfl ⟨_, _, _, rfl, HR.out, hbf⟩

/-- An error on the way: the memory stays. -/
theorem write_stop (cs : List CellD) (A : Option Addr) (q c : Nat) (x t y : Int) (hy0 : 0 ≤ y) (hy9 : y ≤ 9) (T : TypeId) (u : Value) (w : World) (hM : RdM w (.slice A q c) cs)
    (hr : ∀ w1, Below w.heap.size w w1 → Calls Tryd.prog 82 #[.slice A q c, .agg #[.int .i64 x, .int .i64 t]] w1 fun E w' => E = .returned (.tuple #[.agg #[.int .i64 0, .bool false, .int .i64 0, .pointer none], .iface T u]) ∧ Below w1.heap.size w1 w') :
    Calls Tryd.prog 54 #[.slice A q c, .agg #[.int .i64 x, .int .i64 t], .int .i64 y] w (MemPost w cs (.iface T u)) := by
  refine (write_err (.slice A q c) x t y hy0 hy9 w T u hr).mono ?_
  rintro E w' ⟨rfl, hb⟩
  exact ⟨_, rfl, hM.below hb, hb⟩

theorem implWriteCell_any (cs : List CellD) (A : Option Addr) (q c : Nat) (x t y : Int) (w : World) (aI aF aL aR : Addr) (h : RdC w (.slice A q c) cs) (hl : cs.length + tagSum cs ≤ 1048590) (hE : Errs w aI aF aL aR) (hl2 : (writeA cs x t y).1.length + tagSum (writeA cs x t y).1 ≤ 1048600) :
    Calls Tryd.prog 21 #[.slice A q c, .agg #[.int .i64 x, .int .i64 t], .int .i64 y] w (ChgPost w (writeA cs x t y).1 (writeA cs x t y).2) := by
  cases hB : memB cs with
  | false =>
    have e : writeA cs x t y = (cs, 4) := by unfold writeA hitW hit; simp [hB]
    rw [e]
    exact implWriteCell_bad cs A q c x t y w h hl hB
  | true =>
    by_cases hy : ¬ (0 ≤ y ∧ y ≤ 9)
    · have e : writeA cs x t y = (cs, 4) := by unfold writeA; rw [if_neg hy]
      rw [e]
      refine implWriteCell_gen cs cs A q c x t y _ 4 w h hl (by omega) hB (fun w1 A1 c1 hb hM => (write_num (.slice A1 cs.length c1) x t y w1 _ _ hy (hE.below hb).gI).mono ?_) (fun w1 hb => codeOf_I w1 aI aF aL aR (hE.below hb))
      rintro E w' ⟨rfl, hb'⟩
      exact ⟨_, rfl, hM.below hb', hb'⟩
    replace hy := Decidable.not_not.1 hy
    by_cases hx : 0 ≤ x ∧ x < cs.length
    · obtain ⟨i, rfl⟩ : ∃ i : Nat, x = (i : Int) := ⟨x.toNat, by omega⟩
      have hi : i < cs.length := by omega
      have hd : cs[i]? = some cs[i] := List.getElem?_eq_getElem hi
      obtain ⟨d, hdd⟩ : ∃ d, cs[i] = d := ⟨_, rfl⟩
      rw [hdd] at hd
      have hok := (memB_out hB).2 i d hd
      cases ha : d.alive with
      | false =>
        have e : writeA cs (i : Int) t y = (cs, 1) := by unfold writeA hitW hit; simp [hB, hy, hi, hdd, ha]
        rw [e]
        exact implWriteCell_gen cs cs A q c i t y _ 1 w h hl (by omega) hB (fun w1 A1 c1 hb hM => write_stop cs A1 cs.length c1 i t y hy.1 hy.2 _ _ w1 hM fun w2 hb2 => afterWrite_err _ _ _ w2 _ _ fun w3 hb3 =>
          reach_freed cs A1 cs.length c1 i t d w3 _ _ ((hM.below hb2).below hb3) hd ha (((hE.below hb).below hb2).below hb3).gF) (fun w1 hb => codeOf_F w1 aI aF aL aR (hE.below hb))
      | true =>
        cases hta : tagAt t d.tags with
        | none =>
          have e : writeA cs (i : Int) t y = (cs, 2) := by unfold writeA hitW hit; simp [hB, hy, hi, hdd, ha, hta]
          rw [e]
          have hlo : upT t d.tags.reverse = [] := upT_none fun s hs => tagAt_none_all hta s (by simpa using hs)
          exact implWriteCell_gen cs cs A q c i t y _ 2 w h hl (by omega) hB (fun w1 A1 c1 hb hM => write_stop cs A1 cs.length c1 i t y hy.1 hy.2 _ _ w1 hM fun w2 hb2 => afterWrite_err _ _ _ w2 _ _ fun w3 hb3 =>
            reach_lost cs A1 cs.length c1 i t d w3 _ _ ((hM.below hb2).below hb3) hd ha hlo (((hE.below hb).below hb2).below hb3).gL) (fun w1 hb => codeOf_L w1 aI aF aL aR (hE.below hb))
        | some k =>
          obtain ⟨⟨tg, hk, hid⟩, -⟩ := tagAt_some hta
          have hab : ∀ s ∈ d.tags.drop (k + 1), s.id ≠ t := by rw [← hid]; exact hok.above hk
          have hup := upT_take hk hid hab
          have htk : d.tags.take (k + 1) = d.tags.take k ++ [tg] := by rw [List.take_add_one, hk]; rfl
          have hup2 : upT t d.tags.reverse = tg :: (d.tags.take k).reverse := by rw [hup, htk]; simp
          have hln : d.tags.length ≤ 1000 := by have := hok.lenM; omega
          cases hu : tg.u with
          | false =>
            have e : writeA cs (i : Int) t y = (cs, 3) := by unfold writeA hitW hit uAt; simp [hB, hy, hi, hdd, ha, hta, hk, hu]
            rw [e]
            exact implWriteCell_gen cs cs A q c i t y _ 3 w h hl (by omega) hB (fun w1 A1 c1 hb hM => write_stop cs A1 cs.length c1 i t y hy.1 hy.2 _ _ w1 hM fun w2 hb2 =>
              afterWrite_ro _ _ _ d w2 _ _ tg _ hup2 hu (((hE.below hb).below hb2)).gR hln fun w3 hb3 =>
                reach_ok cs A1 cs.length c1 i t d w3 _ _ ((hM.below hb2).below hb3) hd ha (by rw [hup2]; simp) (((hE.below hb).below hb2).below hb3).gL) (fun w1 hb => codeOf_R w1 aI aF aL aR (hE.below hb))
          | true =>
            have e : writeA cs (i : Int) t y = (cs.set i ⟨y, true, d.next, d.tags.take (k + 1)⟩, 0) := by unfold writeA hitW hit uAt; simp [hB, hy, hi, hdd, ha, hta, hk, hu]
            rw [e] at hl2 ⊢
            refine implWriteCell_gen cs _ A q c i t y .nilIface 0 w h hl hl2 hB (fun w1 A1 c1 hb hM => ?_) (fun w1 hb => codeOf_nil w1)
            refine (write_ok cs A1 cs.length c1 i t y hy.1 hy.2 d (d.tags.take (k + 1)) w1 hM hd (by have := (memB_out hB).1; omega) fun w2 hb2 => ?_).mono ?_
            · refine (afterWrite_ok _ _ _ d w2 tg _ hup2 hu hln fun w3 hb3 => reach_ok cs A1 cs.length c1 i t d w3 _ _ ((hM.below hb2).below hb3) hd ha (by rw [hup2]; simp) (((hE.below hb).below hb2).below hb3).gL).mono ?_
              rintro E w' ⟨p2, rfl, hs, hb'⟩
              exact ⟨p2, rfl, by rw [← hup]; exact hs, hb'⟩
            · rintro E w' ⟨v', rfl, hM', hb'⟩
              exact ⟨v', rfl, hM'.reads, hb'⟩
    · have e : writeA cs x t y = (cs, 4) := by unfold writeA hitW hit; simp only [if_pos hy]; rw [if_neg (fun e => hx e.2)]
      rw [e]
      exact implWriteCell_gen cs cs A q c x t y _ 4 w h hl (by omega) hB (fun w1 A1 c1 hb hM => write_stop cs A1 cs.length c1 x t y hy.1 hy.2 _ _ w1 hM fun w2 hb2 => afterWrite_err _ _ _ w2 _ _ fun w3 hb3 =>
        reach_bad A1 cs.length c1 x t w3 _ _ (((hE.below hb).below hb2).below hb3).gI hx) (fun w1 hb => codeOf_I w1 aI aF aL aR (hE.below hb))

set_option maxRecDepth 100000 in
set_option maxHeartbeats 1000000 in
theorem changed_free (cs m2 : List CellD) (A : Option Addr) (q c : Nat) (b1 : Value) (ev : Value) (k : Int) (w : World) (h : RdC w (.slice A q c) cs) (hl : cs.length + tagSum cs ≤ 1048590) (hl2 : m2.length + tagSum m2 ≤ 1048600) (hB : memB cs = true)
    (hcl : ∀ w1 A1 c1, Below w.heap.size w w1 → RdM w1 (.slice A1 cs.length c1) cs → Calls Tryd.prog 60 #[.slice A1 cs.length c1, b1] w1 fun E w' => ∃ v', E = .returned (.tuple #[v', ev]) ∧ RdM w' v' m2 ∧ Below w1.heap.size w1 w')
    (hcode : ∀ w1, Below w.heap.size w w1 → Calls Tryd.prog 81 #[ev] w1 fun E w' => E = .returned (.int .i64 k) ∧ w' = w1) :
    Calls Tryd.prog 52 #[.slice A q c, .func (.func 60) #[] #[b1]] w (ChgPost w m2 k) := by
  obtain ⟨hq, hc1, hc2⟩ := h.len
  subst hq
  have H := Lib.hid h
  have HL := Lib.hid hl
  have HB := Lib.hid hB
  have HCL := Lib.hid hcl
  have HCO := Lib.hid hcode
  clear h hl hB hcl hcode
  go_enter Tryd.func52, Tryd.ntmps52
  go_wp2_with fail
  refine (memoryOf_any cs A cs.length c w H.out (by have := HL.out; omega)).mono ?_
  rintro E w2 ⟨v2, rfl, hM2, hb2⟩
  obtain ⟨A2, c2, hv2, -, -, -⟩ := hM2.reads
  subst hv2
  have HM2 := Lib.hid hM2.reads
  have HB2 := Lib.hid hb2
  clear hb2 hM2
  go_wp2_with fail
  refine (implCellsValid_any cs A cs.length c w2 (H.out.below HB2.out)).mono ?_
  rintro E w3 ⟨rfl, hb3⟩
  rw [HB.out]
  have hs := HB2.out.size
  have hbb3 : Below w.heap.size w w3 := HB2.out.trans (hb3.mono hs)
  have HM3 := Lib.hid (HM2.out.below hb3)
  clear hb3
  go_wp2_with fail
  refine (HCL.out w3 A2 c2 hbb3 HM3.out).mono ?_
  rintro E w4 ⟨v4, rfl, hM4, hb4⟩
  have hbb4 : Below w.heap.size w w4 := hbb3.trans (hb4.mono hbb3.size)
  have hM4' := hM4
  obtain ⟨A4, c4, hv4, -, -, -⟩ := hM4
  subst hv4
  have HM4 := Lib.hid hM4'
  clear hb4 hbb3 hM4'
  go_wp2_with fail
  refine (plain_any m2 A4 m2.length c4 w4 HM4.out hl2).mono ?_
  rintro E w5 ⟨v5, rfl, hR, hb5⟩
  obtain ⟨A5, n5, c5, hv5⟩ := rowC_form hR
  subst hv5
  have hbb5 : Below w.heap.size w w5 := hbb4.trans (hb5.mono hbb4.size)
  have HR := Lib.hid (hR.mono hbb4.size)
  clear hR hb5
  go_wp2_with fail
  refine (HCO.out w5 hbb5).mono ?_
  rintro E w6 ⟨rfl, rfl⟩
  go_wp2_with fail
  exact bodyPost_ret (v := .tuple #[.slice A5 n5 c5, .int .i64 k]) (by simp [results, Tryd.results52, go_sem]) rfl ⟨_, _, _, rfl, HR.out, hbb5⟩

set_option maxRecDepth 100000 in
set_option maxHeartbeats 1000000 in
theorem freeCell1_any (v : Value) (a : Nat) (x t : Int) (m2 : List CellD) (ev : Value) (w : World) (h0 : w.cell? ⟨a, 0, none⟩ = some (.int .i64 x)) (h1 : w.cell? ⟨a, 1, none⟩ = some (.int .i64 t))
    (hr : Calls Tryd.prog 61 #[v, .agg #[.int .i64 x, .int .i64 t]] w (MemPost w m2 ev)) :
    Calls Tryd.prog 60 #[v, .pointer (some ⟨a, 0, none⟩)] w (MemPost w m2 ev) := by
  have HR := Lib.hid hr
  clear hr
  go_enter Tryd.func60, Tryd.ntmps60
  go_wp2_with fail
  refine HR.out.mono ?_
  rintro E w2 ⟨v2, rfl, hM, hb⟩
  clear h0 h1 HR
  go_wp2_with fail
  exact bodyPost_ret (v := .tuple #[v2, ev]) (by simp [results, Tryd.results60, go_sem]) rfl ⟨v2, rfl, hM, hb⟩

set_option maxRecDepth 100000 in
set_option maxHeartbeats 1000000 in
theorem implFreeCell_bad (cs : List CellD) (A : Option Addr) (q c : Nat) (x t : Int) (w : World) (h : RdC w (.slice A q c) cs) (hl : cs.length + tagSum cs ≤ 1048590) (hB : memB cs = false) :
    Calls Tryd.prog 30 #[.slice A q c, .agg #[.int .i64 x, .int .i64 t]] w (ChgPost w cs 4) := by
  have hb0 := (Below.refl w.heap.size w).alloc (Nat.le_refl _) (.cells #[.int .i64 x, .int .i64 t] 25)
  have HB0 := Lib.hid hb0
  have HC := Lib.hid (changed_bad cs A q c (.func (.func 60) #[] #[.pointer (some ⟨w.heap.size, 0, none⟩)]) _ (h.below hb0) hl hB)
  clear h hl hB hb0
  go_enter Tryd.func30, Tryd.ntmps30
  go_wp2_with fail
  refine HC.out.mono ?_
  rintro E w2 ⟨A2, n2, c2, rfl, hR, hb⟩
  have hs := HB0.out.size
  have HR := Lib.hid (hR.mono hs)
  have hbf := HB0.out.trans (hb.mono hs)
  clear hR hb HC
  go_wp2_with fail
  exact bodyPost_ret (v := .tuple #[.slice A2 n2 c2, .int .i64 4]) (by simp [results, Tryd.results30, go_sem]) rfl ⟨_, _, _, rfl, HR.out, hbf⟩

set_option maxRecDepth 100000 in
set_option maxHeartbeats 1000000 in
theorem implFreeCell_gen (cs m2 : List CellD) (A : Option Addr) (q c : Nat) (x t : Int) (ev : Value) (k : Int) (w : World) (h : RdC w (.slice A q c) cs) (hl : cs.length + tagSum cs ≤ 1048590) (hl2 : m2.length + tagSum m2 ≤ 1048600) (hB : memB cs = true)
    (hcl : ∀ w1 A1 c1, Below w.heap.size w w1 → RdM w1 (.slice A1 cs.length c1) cs → Calls Tryd.prog 61 #[.slice A1 cs.length c1, .agg #[.int .i64 x, .int .i64 t]] w1 (MemPost w1 m2 ev))
    (hcode : ∀ w1, Below w.heap.size w w1 → Calls Tryd.prog 81 #[ev] w1 fun E w' => E = .returned (.int .i64 k) ∧ w' = w1) :
    Calls Tryd.prog 30 #[.slice A q c, .agg #[.int .i64 x, .int .i64 t]] w (ChgPost w m2 k) := by
  have hb0 := (Below.refl w.heap.size w).alloc (Nat.le_refl _) (.cells #[.int .i64 x, .int .i64 t] 25)
  have hX := heap_alloc_new w (.cells #[.int .i64 x, .int .i64 t] 25)
  have hz : (w.alloc (.cells #[.int .i64 x, .int .i64 t] 25)).heap.size = w.heap.size + 1 := by simp
  have hs := hb0.size
  have HB0 := Lib.hid hb0
  have HC := Lib.hid (changed_free cs m2 A q c (.pointer (some ⟨w.heap.size, 0, none⟩)) ev k _ (h.below hb0) hl hl2 hB (fun w1 A1 c1 hb hM => by
    have hY := (hb.block w.heap.size (by omega)).trans hX
    exact freeCell1_any _ _ x t m2 ev w1 ((cell_of_block hY 0).trans rfl) ((cell_of_block hY 1).trans rfl) (hcl w1 A1 c1 (hb0.trans (hb.mono hs)) hM)) (fun w1 hb => hcode w1 (hb0.trans (hb.mono hs))))
  clear h hl hB hb0 hX hcl hcode hz hs
  go_enter Tryd.func30, Tryd.ntmps30
  go_wp2_with fail
  refine HC.out.mono ?_
  rintro E w2 ⟨A2, n2, c2, rfl, hR, hb⟩
  have hs := HB0.out.size
  have HR := Lib.hid (hR.mono hs)
  have hbf := HB0.out.trans (hb.mono hs)
  clear hR hb HC
  go_wp2_with fail
  exact bodyPost_ret (v := .tuple #[.slice A2 n2 c2, .int .i64 k]) (by simp [results, Tryd.results30, go_sem]) rfl ⟨_, _, _, rfl, HR.out, hbf⟩

set_option maxRecDepth 100000 in
set_option maxHeartbeats 1000000 in
theorem free_err (v : Value) (x t : Int) (w : World) (T : TypeId) (u : Value) (hr : ∀ w1, Below w.heap.size w w1 → Calls Tryd.prog 82 #[v, .agg #[.int .i64 x, .int .i64 t]] w1 fun E w' => E = .returned (.tuple #[.agg #[.int .i64 0, .bool false, .int .i64 0, .pointer none], .iface T u]) ∧ Below w1.heap.size w1 w') :
    Calls Tryd.prog 61 #[v, .agg #[.int .i64 x, .int .i64 t]] w fun E w' => E = .returned (.tuple #[v, .iface T u]) ∧ Below w.heap.size w w' := by
  have hb0 := (Below.refl w.heap.size w).alloc (Nat.le_refl _) (.cells #[.int .i64 x, .int .i64 t] 25)
  have hX0 := heap_alloc_new w (.cells #[.int .i64 x, .int .i64 t] 25)
  have hc0 : (w.alloc (.cells #[.int .i64 x, .int .i64 t] 25)).cell? ⟨w.heap.size, 0, none⟩ = some (.int .i64 x) := (cell_of_block hX0 0).trans rfl
  have hc1 : (w.alloc (.cells #[.int .i64 x, .int .i64 t] 25)).cell? ⟨w.heap.size, 1, none⟩ = some (.int .i64 t) := (cell_of_block hX0 1).trans rfl
  have HR := Lib.hid (hr _ hb0)
  have HB0 := Lib.hid hb0
  clear hr hb0 hX0
  go_enter Tryd.func61, Tryd.ntmps61
  go_wp2_with fail
  refine HR.out.mono ?_
  rintro E w2 ⟨rfl, hb⟩
  have hbb : Below w.heap.size w w2 := HB0.out.trans (hb.mono (by simp))
  have hs := hbb.size
  clear hb hc0 hc1 HR
  go_wp2_with fail
  exact bodyPost_ret (v := .tuple #[v, .iface T u]) (by simp [results, Tryd.results61, go_sem]) rfl ⟨rfl, hbb.alloc hs _⟩

set_option maxRecDepth 100000 in
set_option maxHeartbeats 1000000 in
theorem free_ok (cs : List CellD) (A : Option Addr) (q c i : Nat) (t : Int) (d : CellD) (ts : List TagD) (w : World) (h : RdM w (.slice A q c) cs) (hd : cs[i]? = some d) (hl : q ≤ 1048600)
    (hr : ∀ w1, Below w.heap.size w w1 → Calls Tryd.prog 82 #[.slice A q c, .agg #[.int .i64 (i : Int), .int .i64 t]] w1 fun E w' => ∃ p, E = .returned (.tuple #[.agg #[.int .i64 d.val, .bool true, .int .i64 d.next, .pointer p], .nilIface]) ∧ Stk w' w'.heap.size ts.reverse p ∧ Below w1.heap.size w1 w') :
    Calls Tryd.prog 61 #[.slice A q c, .agg #[.int .i64 (i : Int), .int .i64 t]] w (BackPost w (cs.set i ⟨d.val, false, d.next, ts⟩)) := by
  have hb0 := (Below.refl w.heap.size w).alloc (Nat.le_refl _) (.cells #[.int .i64 (i : Int), .int .i64 t] 25)
  have hX0 := heap_alloc_new w (.cells #[.int .i64 (i : Int), .int .i64 t] 25)
  have hc0 : (w.alloc (.cells #[.int .i64 (i : Int), .int .i64 t] 25)).cell? ⟨w.heap.size, 0, none⟩ = some (.int .i64 (i : Int)) := (cell_of_block hX0 0).trans rfl
  have hc1 : (w.alloc (.cells #[.int .i64 (i : Int), .int .i64 t] 25)).cell? ⟨w.heap.size, 1, none⟩ = some (.int .i64 t) := (cell_of_block hX0 1).trans rfl
  have hiq : i < q := by have := (List.getElem?_eq_some_iff.1 hd).1; have := h.len.1; omega
  have hz : (w.alloc (.cells #[.int .i64 (i : Int), .int .i64 t] 25)).heap.size = w.heap.size + 1 := by simp
  have HR := Lib.hid (hr _ hb0)
  have HB0 := Lib.hid hb0
  have HX0 := Lib.hid hX0
  have HZ := Lib.hid hz
  have H := Lib.hid h
  clear hr hb0 hX0 hz h
  go_enter Tryd.func61, Tryd.ntmps61
  go_wp2_with fail
  refine HR.out.mono ?_
  rintro E w2 ⟨p, rfl, hst, hb⟩
  rw [HZ.out] at hb
  have hbb : Below w.heap.size w w2 := HB0.out.trans (hb.mono (by omega))
  have hs := hb.size
  rw [HZ.out] at hs
  have hba := (Below.refl w2.heap.size w2).alloc (Nat.le_refl _) (.cells #[.int .i64 d.val, .bool true, .int .i64 d.next, .pointer p] 96)
  have hN := (hba.block w.heap.size (by omega)).trans ((hb.block w.heap.size (by omega)).trans HX0.out)
  have hT := heap_alloc_new w2 (.cells #[.int .i64 d.val, .bool true, .int .i64 d.next, .pointer p] 96)
  have hst2 := (hst.below hba (Nat.le_refl _)).mono hba.size
  have hbb2 : Below w.heap.size w (w2.alloc (.cells #[.int .i64 d.val, .bool true, .int .i64 d.next, .pointer p] 96)) := hbb.alloc (by omega) _
  have HN := Lib.hid hN
  have HT := Lib.hid hT
  have HST := Lib.hid hst2
  have HBB := Lib.hid hbb2
  clear hb hN hT hba hst hst2 hbb hbb2 hc0 hc1 HR
  go_upto_region 4 with fail
  obtain ⟨W2, hW2⟩ : ∃ x, w2.alloc (.cells #[.int .i64 d.val, .bool true, .int .i64 d.next, .pointer p] 96) = x := ⟨_, rfl⟩
  rw [hW2] at HN HT HST HBB ⊢
  have t0 := (cell_of_block HT.out 0).trans (show _ = some (.int .i64 d.val) from rfl)
  have t1 := (cell_of_block HT.out 1).trans (show _ = some (.bool true) from rfl)
  have g1 := frozen_of_block HT.out 1
  have hTs := set_keeps HT.out 1 (.bool false)
  have hbs : Below w.heap.size w (W2.setCell ⟨w2.heap.size, 1, none⟩ (.bool false)) := HBB.out.setCell (by show w.heap.size ≤ w2.heap.size; omega) _
  have hss := Stk.setType HST.out HT.out (by decide) 1 (.bool false)
  have hNs : (W2.setCell ⟨w2.heap.size, 1, none⟩ (.bool false)).heap[w.heap.size]? = some (.cells #[.int .i64 (i : Int), .int .i64 t] 25 (0, 0)) := (heap_set (show w.heap.size ≠ w2.heap.size by omega)).trans HN.out
  have hsz : (W2.setCell ⟨w2.heap.size, 1, none⟩ (.bool false)).heap.size = W2.heap.size := by simp [World.setCell]
  go_upto_region 5 with fail
  clear t0 t1 g1
  have hx0 := (cell_of_block hNs 0).trans (show _ = some (.int .i64 (i : Int)) from rfl)
  have y0 := (cell_of_block hTs 0).trans (show _ = some (.int .i64 d.val) from rfl)
  have y1 := (cell_of_block hTs 1).trans (show _ = some (.bool false) from rfl)
  have y2 := (cell_of_block hTs 2).trans (show _ = some (.int .i64 d.next) from rfl)
  have y3 := (cell_of_block hTs 3).trans (show _ = some (.pointer p) from rfl)
  obtain ⟨W3, hW3⟩ : ∃ x, W2.setCell ⟨w2.heap.size, 1, none⟩ (.bool false) = x := ⟨_, rfl⟩
  rw [hW3] at hbs hss hx0 y0 y1 y2 y3 hsz ⊢
  rw [← hsz] at hss
  have HM := Lib.hid (H.out.below hbs)
  clear hTs hNs hW3 hW2
  go_wp2_with fail
  refine (with_any cs A q c i ⟨d.val, false, d.next, ts⟩ p W3 HM.out hl hiq hss).mono ?_
  rintro E w' ⟨vv, rfl, hM, hbn⟩
  have hbf : Below w.heap.size w w' := hbs.trans (hbn.mono hbs.size)
  have HM2 := Lib.hid (hM.mono hbs.size)
  clear hbn hM hbs hss hx0 y0 y1 y2 y3
  go_wp2_with fail
  exact bodyPost_ret (v := .tuple #[vv, .nilIface]) (by simp [results, Tryd.results61, go_sem]) rfl ⟨_, rfl, HM2.out, hbf⟩

/-- An error on the way: the memory stays. -/
theorem free_stop (cs : List CellD) (A : Option Addr) (q c : Nat) (x t : Int) (T : TypeId) (u : Value) (w : World) (hM : RdM w (.slice A q c) cs)
    (hr : ∀ w1, Below w.heap.size w w1 → Calls Tryd.prog 82 #[.slice A q c, .agg #[.int .i64 x, .int .i64 t]] w1 fun E w' => E = .returned (.tuple #[.agg #[.int .i64 0, .bool false, .int .i64 0, .pointer none], .iface T u]) ∧ Below w1.heap.size w1 w') :
    Calls Tryd.prog 61 #[.slice A q c, .agg #[.int .i64 x, .int .i64 t]] w (MemPost w cs (.iface T u)) := by
  refine (free_err (.slice A q c) x t w T u hr).mono ?_
  rintro E w' ⟨rfl, hb⟩
  exact ⟨_, rfl, hM.below hb, hb⟩

theorem implFreeCell_any (cs : List CellD) (A : Option Addr) (q c : Nat) (x t : Int) (w : World) (aI aF aL aR : Addr) (h : RdC w (.slice A q c) cs) (hl : cs.length + tagSum cs ≤ 1048590) (hE : Errs w aI aF aL aR) (hl2 : (freeA cs x t).1.length + tagSum (freeA cs x t).1 ≤ 1048600) :
    Calls Tryd.prog 30 #[.slice A q c, .agg #[.int .i64 x, .int .i64 t]] w (ChgPost w (freeA cs x t).1 (freeA cs x t).2) := by
  cases hB : memB cs with
  | false =>
    have e : freeA cs x t = (cs, 4) := by unfold freeA hitW hit; simp [hB]
    rw [e]
    exact implFreeCell_bad cs A q c x t w h hl hB
  | true =>
    by_cases hx : 0 ≤ x ∧ x < cs.length
    · obtain ⟨i, rfl⟩ : ∃ i : Nat, x = (i : Int) := ⟨x.toNat, by omega⟩
      have hi : i < cs.length := by omega
      have hd : cs[i]? = some cs[i] := List.getElem?_eq_getElem hi
      obtain ⟨d, hdd⟩ : ∃ d, cs[i] = d := ⟨_, rfl⟩
      rw [hdd] at hd
      have hok := (memB_out hB).2 i d hd
      cases ha : d.alive with
      | false =>
        have e : freeA cs (i : Int) t = (cs, 1) := by unfold freeA hitW hit; simp [hB, hi, hdd, ha]
        rw [e]
        exact implFreeCell_gen cs cs A q c i t _ 1 w h hl (by omega) hB (fun w1 A1 c1 hb hM => free_stop cs A1 cs.length c1 i t _ _ w1 hM fun w2 hb2 => afterWrite_err _ _ _ w2 _ _ fun w3 hb3 =>
          reach_freed cs A1 cs.length c1 i t d w3 _ _ ((hM.below hb2).below hb3) hd ha (((hE.below hb).below hb2).below hb3).gF) (fun w1 hb => codeOf_F w1 aI aF aL aR (hE.below hb))
      | true =>
        cases hta : tagAt t d.tags with
        | none =>
          have e : freeA cs (i : Int) t = (cs, 2) := by unfold freeA hitW hit; simp [hB, hi, hdd, ha, hta]
          rw [e]
          have hlo : upT t d.tags.reverse = [] := upT_none fun s hs => tagAt_none_all hta s (by simpa using hs)
          exact implFreeCell_gen cs cs A q c i t _ 2 w h hl (by omega) hB (fun w1 A1 c1 hb hM => free_stop cs A1 cs.length c1 i t _ _ w1 hM fun w2 hb2 => afterWrite_err _ _ _ w2 _ _ fun w3 hb3 =>
            reach_lost cs A1 cs.length c1 i t d w3 _ _ ((hM.below hb2).below hb3) hd ha hlo (((hE.below hb).below hb2).below hb3).gL) (fun w1 hb => codeOf_L w1 aI aF aL aR (hE.below hb))
        | some k =>
          obtain ⟨⟨tg, hk, hid⟩, -⟩ := tagAt_some hta
          have hab : ∀ s ∈ d.tags.drop (k + 1), s.id ≠ t := by rw [← hid]; exact hok.above hk
          have hup := upT_take hk hid hab
          have htk : d.tags.take (k + 1) = d.tags.take k ++ [tg] := by rw [List.take_add_one, hk]; rfl
          have hup2 : upT t d.tags.reverse = tg :: (d.tags.take k).reverse := by rw [hup, htk]; simp
          have hln : d.tags.length ≤ 1000 := by have := hok.lenM; omega
          cases hu : tg.u with
          | false =>
            have e : freeA cs (i : Int) t = (cs, 3) := by unfold freeA hitW hit uAt; simp [hB, hi, hdd, ha, hta, hk, hu]
            rw [e]
            exact implFreeCell_gen cs cs A q c i t _ 3 w h hl (by omega) hB (fun w1 A1 c1 hb hM => free_stop cs A1 cs.length c1 i t _ _ w1 hM fun w2 hb2 =>
              afterWrite_ro _ _ _ d w2 _ _ tg _ hup2 hu (((hE.below hb).below hb2)).gR hln fun w3 hb3 =>
                reach_ok cs A1 cs.length c1 i t d w3 _ _ ((hM.below hb2).below hb3) hd ha (by rw [hup2]; simp) (((hE.below hb).below hb2).below hb3).gL) (fun w1 hb => codeOf_R w1 aI aF aL aR (hE.below hb))
          | true =>
            have e : freeA cs (i : Int) t = (cs.set i { d with alive := false, tags := d.tags.take (k + 1) }, 0) := by unfold freeA hitW hit uAt; simp [hB, hi, hdd, ha, hta, hk, hu]
            rw [e] at hl2 ⊢
            refine implFreeCell_gen cs _ A q c i t .nilIface 0 w h hl hl2 hB (fun w1 A1 c1 hb hM => ?_) (fun w1 hb => codeOf_nil w1)
            refine (free_ok cs A1 cs.length c1 i t d (d.tags.take (k + 1)) w1 hM hd (by have := (memB_out hB).1; omega) fun w2 hb2 => ?_).mono ?_
            · refine (afterWrite_ok _ _ _ d w2 tg _ hup2 hu hln fun w3 hb3 => reach_ok cs A1 cs.length c1 i t d w3 _ _ ((hM.below hb2).below hb3) hd ha (by rw [hup2]; simp) (((hE.below hb).below hb2).below hb3).gL).mono ?_
              rintro E w' ⟨p2, rfl, hs, hb'⟩
              exact ⟨p2, rfl, by rw [← hup]; exact hs, hb'⟩
            · rintro E w' ⟨v', rfl, hM', hb'⟩
              exact ⟨v', rfl, hM'.reads, hb'⟩
    · have e : freeA cs x t = (cs, 4) := by unfold freeA hitW hit; rw [if_neg (fun e => hx e.2)]
      rw [e]
      exact implFreeCell_gen cs cs A q c x t _ 4 w h hl (by omega) hB (fun w1 A1 c1 hb hM => free_stop cs A1 cs.length c1 x t _ _ w1 hM fun w2 hb2 => afterWrite_err _ _ _ w2 _ _ fun w3 hb3 =>
        reach_bad A1 cs.length c1 x t w3 _ _ (((hE.below hb).below hb2).below hb3).gI hx) (fun w1 hb => codeOf_I w1 aI aF aL aR (hE.below hb))

set_option maxRecDepth 100000 in
set_option maxHeartbeats 1000000 in
theorem changed_accI (cs m2 : List CellD) (A : Option Addr) (q c B r : Nat) (ro : Obj) (b1 b2 b3 : Value) (ev : Value) (k : Int) (w : World) (h : RdC w (.slice A q c) cs) (hl : cs.length + tagSum cs ≤ 1048590) (hl2 : m2.length + tagSum m2 ≤ 1048600) (hB : memB cs = true) (hBw : B ≤ w.heap.size)
    (hcl : ∀ w1 A1 c1, Below w.heap.size w w1 → RowM w1 w.heap.size (.slice A1 cs.length c1) cs → Calls Tryd.prog 74 #[.slice A1 cs.length c1, b1, b2, b3] w1 (CloPost w1 B w.heap.size r ro m2 ev))
    (hcode : ∀ w1, Below B w w1 → Calls Tryd.prog 81 #[ev] w1 fun E w' => E = .returned (.int .i64 k) ∧ w' = w1) :
    Calls Tryd.prog 52 #[.slice A q c, .func (.func 74) #[] #[b1, b2, b3]] w (AccPost w B r ro m2 k) := by
  obtain ⟨hq, hc1, hc2⟩ := h.len
  subst hq
  have H := Lib.hid h
  have HL := Lib.hid hl
  have HB := Lib.hid hB
  have HCL := Lib.hid hcl
  have HCO := Lib.hid hcode
  have HBW := Lib.hid hBw
  clear h hl hB hcl hcode hBw
  go_enter Tryd.func52, Tryd.ntmps52
  go_wp2_with fail
  refine (memoryOf_any cs A cs.length c w H.out (by have := HL.out; omega)).mono ?_
  rintro E w2 ⟨v2, rfl, hM2, hb2⟩
  obtain ⟨A2, c2, hv2, -, -, -⟩ := hM2.reads
  subst hv2
  have HM2 := Lib.hid hM2
  have HB2 := Lib.hid hb2
  clear hb2 hM2
  go_wp2_with fail
  refine (implCellsValid_any cs A cs.length c w2 (H.out.below HB2.out)).mono ?_
  rintro E w3 ⟨rfl, hb3⟩
  rw [HB.out]
  have hs := HB2.out.size
  have hbb3 : Below w.heap.size w w3 := HB2.out.trans (hb3.mono hs)
  have HM3 := Lib.hid (HM2.out.below hb3)
  clear hb3
  go_wp2_with fail
  refine (HCL.out w3 A2 c2 hbb3 HM3.out).mono ?_
  rintro E w4 ⟨v4, rfl, hM4, hb4, hr4⟩
  have hbb4 : Below B w w4 := (hbb3.mono HBW.out).trans hb4
  have hM4' := hM4.reads
  obtain ⟨A4, c4, hv4, -, -, -⟩ := hM4.reads
  subst hv4
  have HM4 := Lib.hid hM4'
  have HR4 := Lib.hid hr4
  clear hb4 hbb3 hM4 hM4' hr4
  go_wp2_with fail
  refine (plain_any m2 A4 m2.length c4 w4 HM4.out hl2).mono ?_
  rintro E w5 ⟨v5, rfl, hR, hb5⟩
  obtain ⟨A5, n5, c5, hv5⟩ := rowC_form hR
  subst hv5
  have hbb5 : Below B w w5 := hbb4.trans (hb5.mono (Nat.le_trans HBW.out hbb4.size))
  have HR := Lib.hid (hR.mono hbb4.size)
  have HR5 := Lib.hid ((hb5.block r (heap_lt HR4.out)).trans HR4.out)
  clear hR hb5
  go_wp2_with fail
  refine (HCO.out w5 hbb5).mono ?_
  rintro E w6 ⟨rfl, rfl⟩
  go_wp2_with fail
  exact bodyPost_ret (v := .tuple #[.slice A5 n5 c5, .int .i64 k]) (by simp [results, Tryd.results52, go_sem]) rfl ⟨_, _, _, rfl, HR.out, hbb5, HR5.out⟩

set_option maxRecDepth 100000 in
set_option maxHeartbeats 1000000 in
theorem cloI_any (v : Value) (a b r B Bm : Nat) (x t y0 y : Int) (m2 : List CellD) (ev : Value) (w : World) (ha : w.cell? ⟨a, 0, none⟩ = some (.func (.func 44) #[] #[])) (h0 : w.cell? ⟨b, 0, none⟩ = some (.int .i64 x)) (h1 : w.cell? ⟨b, 1, none⟩ = some (.int .i64 t))
    (hr : w.heap[r]? = some (.cells #[.int .i64 y0] 3 (0, 0))) (hBr : B ≤ r) (hrm : r < Bm)
    (hc : Calls Tryd.prog 44 #[v, .agg #[.int .i64 x, .int .i64 t]] w (ResPost w Bm m2 (.int .i64 y) ev)) :
    Calls Tryd.prog 74 #[v, .pointer (some ⟨a, 0, none⟩), .pointer (some ⟨b, 0, none⟩), .pointer (some ⟨r, 0, none⟩)] w (CloPost w B Bm r (.cells #[.int .i64 y] 3 (0, 0)) m2 ev) := by
  have HC := Lib.hid hc
  have HR := Lib.hid hr
  clear hc hr
  go_enter Tryd.func74, Tryd.ntmps74
  go_wp2_with fail
  refine HC.out.mono ?_
  rintro E w2 ⟨v2, rfl, hM, hb⟩
  have hr2 := (hb.block r (heap_lt HR.out)).trans HR.out
  have hq := (cell_of_block hr2 0).trans (show _ = some (.int .i64 y0) from rfl)
  have hf := frozen_of_block hr2 0
  have hr3 : (w2.setCell ⟨r, 0, none⟩ (.int .i64 y)).heap[r]? = some (.cells #[.int .i64 y] 3 (0, 0)) := set_keeps hr2 0 _
  have hM3 : RowM (w2.setCell ⟨r, 0, none⟩ (.int .i64 y)) Bm v2 m2 := hM.setType hr2 (by decide) hrm
  have hb3 : Below B w (w2.setCell ⟨r, 0, none⟩ (.int .i64 y)) := (hb.mono (Nat.le_trans hBr (Nat.le_of_lt (heap_lt HR.out)))).setCell hBr _
  have HP := Lib.hid hr3
  have HM := Lib.hid hM3
  have HB := Lib.hid hb3
  clear ha h0 h1 HC hr2 hM hb hr3 hM3 hb3
  go_wp2_with fail
  exact bodyPost_ret (v := .tuple #[v2, ev]) (by simp [results, Tryd.results74, go_sem]) rfl ⟨v2, rfl, HM.out, HB.out, HP.out⟩

/-- What the exported function answers. -/
def IntPostI (w : World) (cs : List CellD) (y k : Int) (E : Ending) (w' : World) : Prop := ∃ A n c, E = .returned (.tuple #[.slice A n c, .int .i64 y, .int .i64 k]) ∧ RowC w' w.heap.size (.slice A n c) cs ∧ Below w.heap.size w w'

set_option maxRecDepth 100000 in
set_option maxHeartbeats 1000000 in
theorem accessedI_gen (cs m2 : List CellD) (A : Option Addr) (q c : Nat) (x t y k : Int) (w : World)
    (hc : ∀ w1 b1 b2 b3, Below w.heap.size w w1 → w1.heap[w.heap.size]? = some (.cells #[.int .i64 x, .int .i64 t] 25) → w1.heap[w.heap.size + 1]? = some (.cells #[.func (.func 44) #[] #[]] 53) → w1.heap[w.heap.size + 2]? = some (.cells #[.int .i64 0] 3) → w1.heap.size = w.heap.size + 3 → b1 = .pointer (some ⟨w.heap.size + 1, 0, none⟩) → b2 = .pointer (some ⟨w.heap.size, 0, none⟩) → b3 = .pointer (some ⟨w.heap.size + 2, 0, none⟩) →
      Calls Tryd.prog 52 #[.slice A q c, .func (.func 74) #[] #[b1, b2, b3]] w1 (AccPost w1 w.heap.size (w.heap.size + 2) (.cells #[.int .i64 y] 3 (0, 0)) m2 k)) :
    Calls Tryd.prog 43 #[.slice A q c, .agg #[.int .i64 x, .int .i64 t], .func (.func 44) #[] #[]] w (IntPostI w m2 y k) := by
  have hb0 := (((Below.refl w.heap.size w).alloc (Nat.le_refl _) (.cells #[.int .i64 x, .int .i64 t] 25)).alloc (by simp) (.cells #[.func (.func 44) #[] #[]] 53)).alloc (by simp; omega) (.cells #[.int .i64 0] 3)
  have HC := Lib.hid (hc _ _ _ _ hb0 (three_0 w _ _ _) (three_1 w _ _ _) (three_2 w _ _ _) (by simp) rfl rfl rfl)
  have HB0 := Lib.hid hb0
  clear hc hb0
  go_enter Tryd.func43, Tryd.ntmps43
  go_wp2_with fail
  refine HC.out.mono ?_
  rintro E w2 ⟨A2, n2, c2, rfl, hR, hb, hr⟩
  have hr0 := (cell_of_block hr 0).trans (show _ = some (.int .i64 y) from rfl)
  have hs := HB0.out.size
  have HR := Lib.hid (hR.mono hs)
  have HBF := Lib.hid (HB0.out.trans hb)
  clear hR hb HC hr hs
  go_wp2_with fail
  go_quiet (fail)
  go_wp2_with fail
  exact bodyPost_ret (v := .tuple #[.slice A2 n2 c2, .int .i64 y, .int .i64 k]) (by simp [results, Tryd.results43, go_sem]) rfl ⟨_, _, _, rfl, HR.out.below (below_drewN (Below.refl _ _) _), below_drewN HBF.out _⟩

theorem accessedI_good (cs m2 : List CellD) (A : Option Addr) (q c : Nat) (x t y : Int) (ev : Value) (k : Int) (w : World) (h : RdC w (.slice A q c) cs) (hl : cs.length + tagSum cs ≤ 1048590) (hl2 : m2.length + tagSum m2 ≤ 1048600) (hB : memB cs = true)
    (hcl : ∀ w1 A1 c1 Bm, Below w.heap.size w w1 → Bm ≤ w1.heap.size → RowM w1 Bm (.slice A1 cs.length c1) cs → Calls Tryd.prog 44 #[.slice A1 cs.length c1, .agg #[.int .i64 x, .int .i64 t]] w1 (ResPost w1 Bm m2 (.int .i64 y) ev))
    (hcode : ∀ w1, Below w.heap.size w w1 → Calls Tryd.prog 81 #[ev] w1 fun E w' => E = .returned (.int .i64 k) ∧ w' = w1) :
    Calls Tryd.prog 43 #[.slice A q c, .agg #[.int .i64 x, .int .i64 t], .func (.func 44) #[] #[]] w (IntPostI w m2 y k) := by
  refine accessedI_gen cs m2 A q c x t y k w fun w1 b1 b2 b3 hb h0 h1 h2 hz e1 e2 e3 => ?_
  subst e1 e2 e3
  refine changed_accI cs m2 A q c w.heap.size (w.heap.size + 2) _ _ _ _ ev k w1 (h.below hb) hl hl2 hB hb.size (fun w2 A1 c1 hb2 hM => ?_) (fun w2 hb2 => hcode w2 (hb.trans hb2))
  have g0 := (hb2.block w.heap.size (by omega)).trans h0
  have g1 := (hb2.block (w.heap.size + 1) (by omega)).trans h1
  have g2 := (hb2.block (w.heap.size + 2) (by omega)).trans h2
  exact cloI_any _ _ _ _ w.heap.size w1.heap.size x t 0 y m2 ev w2 ((cell_of_block g1 0).trans rfl) ((cell_of_block g0 0).trans rfl) ((cell_of_block g0 1).trans rfl) g2 (by omega) (by omega) (hcl w2 A1 c1 w1.heap.size (hb.trans (hb2.mono hb.size)) hb2.size hM)

theorem accessedI_bad (cs : List CellD) (A : Option Addr) (q c : Nat) (x t : Int) (w : World) (h : RdC w (.slice A q c) cs) (hl : cs.length + tagSum cs ≤ 1048590) (hB : memB cs = false) :
    Calls Tryd.prog 43 #[.slice A q c, .agg #[.int .i64 x, .int .i64 t], .func (.func 44) #[] #[]] w (IntPostI w cs 0 4) := by
  refine accessedI_gen cs cs A q c x t 0 4 w fun w1 b1 b2 b3 hb h0 h1 h2 hz e1 e2 e3 => ?_
  refine (changed_bad cs A q c _ w1 (h.below hb) hl hB).mono ?_
  rintro E w2 ⟨A2, n2, c2, rfl, hR, hb2⟩
  exact ⟨A2, n2, c2, rfl, hR, hb2.mono hb.size, (hb2.block (w.heap.size + 2) (by omega)).trans h2⟩

set_option maxRecDepth 100000 in
set_option maxHeartbeats 1000000 in
theorem implReadCell_of (m2 : List CellD) (A : Option Addr) (q c : Nat) (x t y k : Int) (w : World)
    (hc : ∀ w1, Below w.heap.size w w1 → Calls Tryd.prog 43 #[.slice A q c, .agg #[.int .i64 x, .int .i64 t], .func (.func 44) #[] #[]] w1 (IntPostI w1 m2 y k)) :
    Calls Tryd.prog 16 #[.slice A q c, .agg #[.int .i64 x, .int .i64 t]] w (IntPostI w m2 y k) := by
  have hb0 := (Below.refl w.heap.size w).alloc (Nat.le_refl _) (.cells #[.int .i64 x, .int .i64 t] 25)
  have hX0 := heap_alloc_new w (.cells #[.int .i64 x, .int .i64 t] 25)
  have hc0 : (w.alloc (.cells #[.int .i64 x, .int .i64 t] 25)).cell? ⟨w.heap.size, 0, none⟩ = some (.int .i64 x) := (cell_of_block hX0 0).trans rfl
  have hc1 : (w.alloc (.cells #[.int .i64 x, .int .i64 t] 25)).cell? ⟨w.heap.size, 1, none⟩ = some (.int .i64 t) := (cell_of_block hX0 1).trans rfl
  have HC := Lib.hid (hc _ hb0)
  have HB0 := Lib.hid hb0
  clear hc hb0 hX0
  go_enter Tryd.func16, Tryd.ntmps16
  go_wp2_with fail
  refine HC.out.mono ?_
  rintro E w2 ⟨A2, n2, c2, rfl, hR, hb⟩
  have hs := HB0.out.size
  have HR := Lib.hid (hR.mono hs)
  have HBF := Lib.hid (HB0.out.trans (hb.mono hs))
  clear hR hb HC hs hc0 hc1
  go_wp2_with fail
  exact bodyPost_ret (v := .tuple #[.slice A2 n2 c2, .int .i64 y, .int .i64 k]) (by simp [results, Tryd.results16, go_sem]) rfl ⟨_, _, _, rfl, HR.out, HBF.out⟩

/-- An error on the way: the memory stays. -/
theorem read_stop (cs : List CellD) (A : Option Addr) (q c : Nat) (x t : Int) (T : TypeId) (u : Value) (Bm : Nat) (w : World) (hM : RowM w Bm (.slice A q c) cs)
    (hr : ∀ w1, Below w.heap.size w w1 → Calls Tryd.prog 75 #[.slice A q c, .agg #[.int .i64 x, .int .i64 t]] w1 fun E w' => E = .returned (.tuple #[.agg #[.int .i64 0, .bool false, .int .i64 0, .pointer none], .iface T u]) ∧ Below w1.heap.size w1 w') :
    Calls Tryd.prog 44 #[.slice A q c, .agg #[.int .i64 x, .int .i64 t]] w (ResPost w Bm cs (.int .i64 0) (.iface T u)) := by
  refine (read_err (.slice A q c) x t w T u hr).mono ?_
  rintro E w' ⟨rfl, hb⟩
  exact ⟨_, rfl, hM.below hb, hb⟩

theorem implReadCell_any (cs : List CellD) (A : Option Addr) (q c : Nat) (x t : Int) (w : World) (aI aF aL aR : Addr) (h : RdC w (.slice A q c) cs) (hl : cs.length + tagSum cs ≤ 1048590) (hE : Errs w aI aF aL aR) (hl2 : (readA cs x t).1.length + tagSum (readA cs x t).1 ≤ 1048600) :
    Calls Tryd.prog 16 #[.slice A q c, .agg #[.int .i64 x, .int .i64 t]] w (IntPostI w (readA cs x t).1 (readA cs x t).2.1 (readA cs x t).2.2) := by
  cases hB : memB cs with
  | false =>
    have e : readA cs x t = (cs, 0, 4) := by unfold readA hit; simp [hB]
    rw [e]
    exact implReadCell_of cs A q c x t 0 4 w fun w1 hb => accessedI_bad cs A q c x t w1 (h.below hb) hl hB
  | true =>
    by_cases hx : 0 ≤ x ∧ x < cs.length
    · obtain ⟨i, rfl⟩ : ∃ i : Nat, x = (i : Int) := ⟨x.toNat, by omega⟩
      have hi : i < cs.length := by omega
      have hd : cs[i]? = some cs[i] := List.getElem?_eq_getElem hi
      obtain ⟨d, hdd⟩ : ∃ d, cs[i] = d := ⟨_, rfl⟩
      rw [hdd] at hd
      have hok := (memB_out hB).2 i d hd
      cases ha : d.alive with
      | false =>
        have e : readA cs (i : Int) t = (cs, 0, 1) := by unfold readA hit; simp [hB, hi, hdd, ha]
        rw [e]
        exact implReadCell_of cs A q c i t 0 1 w fun w0 hb0 => accessedI_good cs cs A q c i t 0 _ 1 w0 (h.below hb0) hl (by omega) hB (fun w1 A1 c1 Bm hb hBm hM => read_stop cs A1 cs.length c1 i t _ _ Bm w1 hM fun w2 hb2 => afterRead_err _ _ _ w2 _ _ fun w3 hb3 =>
          reach_freed cs A1 cs.length c1 i t d w3 _ _ ((hM.reads.below hb2).below hb3) hd ha ((((hE.below hb0).below hb).below hb2).below hb3).gF) (fun w1 hb => codeOf_F w1 aI aF aL aR ((hE.below hb0).below hb))
      | true =>
        cases hta : tagAt t d.tags with
        | none =>
          have e : readA cs (i : Int) t = (cs, 0, 2) := by unfold readA hit; simp [hB, hi, hdd, ha, hta]
          rw [e]
          have hlo : upT t d.tags.reverse = [] := upT_none fun s hs => tagAt_none_all hta s (by simpa using hs)
          exact implReadCell_of cs A q c i t 0 2 w fun w0 hb0 => accessedI_good cs cs A q c i t 0 _ 2 w0 (h.below hb0) hl (by omega) hB (fun w1 A1 c1 Bm hb hBm hM => read_stop cs A1 cs.length c1 i t _ _ Bm w1 hM fun w2 hb2 => afterRead_err _ _ _ w2 _ _ fun w3 hb3 =>
            reach_lost cs A1 cs.length c1 i t d w3 _ _ ((hM.reads.below hb2).below hb3) hd ha hlo ((((hE.below hb0).below hb).below hb2).below hb3).gL) (fun w1 hb => codeOf_L w1 aI aF aL aR ((hE.below hb0).below hb))
        | some k =>
          obtain ⟨⟨tg, hk, hid⟩, -⟩ := tagAt_some hta
          have hab : ∀ s ∈ d.tags.drop (k + 1), s.id ≠ t := by rw [← hid]; exact hok.above hk
          have hup := upT_take hk hid hab
          have hlo : upT t d.tags.reverse ≠ [] := by rw [hup, List.take_add_one, hk]; simp
          have hln : d.tags.length ≤ 1000 := by have := hok.lenM; omega
          have e : readA cs (i : Int) t = (cs.set i ⟨d.val, true, d.next, readT d.tags k⟩, d.val, 0) := by unfold readA hit; simp [hB, hi, hdd, ha, hta]
          rw [e] at hl2 ⊢
          refine implReadCell_of _ A q c i t d.val 0 w fun w0 hb0 => accessedI_good cs _ A q c i t d.val .nilIface 0 w0 (h.below hb0) hl hl2 hB (fun w1 A1 c1 Bm hb hBm hM => ?_) (fun w1 hb => codeOf_nil w1)
          refine (read_ok cs A1 cs.length c1 i t d (readT d.tags k) w1 hM.reads hd (by have := (memB_out hB).1; omega) fun w2 hb2 => ?_).mono ?_
          · refine (afterRead_ok _ _ _ d w2 hlo hln fun w3 hb3 => reach_ok cs A1 cs.length c1 i t d w3 _ _ ((hM.reads.below hb2).below hb3) hd ha hlo ((((hE.below hb0).below hb).below hb2).below hb3).gL).mono ?_
            rintro E w' ⟨p2, rfl, ⟨B, hBe, hs⟩, hb'⟩
            exact ⟨p2, rfl, by rw [readT_reverse hk hid hab hBe]; exact hs, hb'⟩
          · rintro E w' ⟨v', rfl, hM', hb'⟩
            exact ⟨v', rfl, hM'.mono hBm, hb'⟩
    · have e : readA cs x t = (cs, 0, 4) := by unfold readA hit; rw [if_neg (fun e => hx e.2)]
      rw [e]
      exact implReadCell_of cs A q c x t 0 4 w fun w0 hb0 => accessedI_good cs cs A q c x t 0 _ 4 w0 (h.below hb0) hl (by omega) hB (fun w1 A1 c1 Bm hb hBm hM => read_stop cs A1 cs.length c1 x t _ _ Bm w1 hM fun w2 hb2 => afterRead_err _ _ _ w2 _ _ fun w3 hb3 =>
        reach_bad A1 cs.length c1 x t w3 _ _ ((((hE.below hb0).below hb).below hb2).below hb3).gI hx) (fun w1 hb => codeOf_I w1 aI aF aL aR ((hE.below hb0).below hb))

set_option maxRecDepth 100000 in
set_option maxHeartbeats 4000000 in
theorem bcCells_any (cs : List CellD) (A A' : Option Addr) (q c c' : Nat) (w : World) (h : RdC w (.slice A q c) cs) (h' : RdC w (.slice A' q c') cs) :
    Calls Tryd.prog 18 #[.slice A q c, .slice A' q c'] w fun e w' => e = .returned (.bool true) ∧ Below w.heap.size w w' := by
  obtain ⟨hq, hc1, hc2⟩ := h.len
  obtain ⟨-, hc1', hc2'⟩ := h'.len
  unfold maxLen at hc2 hc2'
  have HN := Lib.hid hq
  have H := Lib.hid h
  have H' := Lib.hid h'
  clear hq h h'
  go_enter Tryd.func18, Tryd.ntmps18
  go_wp2_with fail
  go_loopw [5] (fun i wr => ∃ k : Nat, k ≤ q ∧ i = .int .i64 k ∧ Below w.heap.size w wr) (fun i _ => q - (intOf i).toNat)
  case atStart => exact ⟨0, Nat.zero_le _, rfl, Below.refl _ _⟩
  case round =>
    obtain ⟨k, hk, rfl, hb⟩ := hrel
    obtain ⟨wo, rfl⟩ : ∃ z, z = wr := ⟨_, rfl⟩
    by_cases hlt : k < q
    · obtain ⟨b, val, al, nx, ts, Au, cu, rfl, hbb, hd, ⟨a0, a1, a2, a3⟩, hT, t1, t2⟩ := (H.out.below hb).elem (k := k) (by rw [← HN.out]; exact hlt)
      obtain ⟨b', val', al', nx', ts', Au', cu', rfl, hbb', hd', ⟨b0, b1, b2, b3⟩, hT', t1', t2'⟩ := (H'.out.below hb).elem (k := k) (by rw [← HN.out]; exact hlt)
      rw [hd] at hd'
      injection hd' with hd'
      injection hd' with e1 e2 e3 e4
      subst e1 e2 e3 e4
      clear hd
      unfold maxLen at t2 t2'
      obtain ⟨L, hL⟩ : ∃ L, ts.length = L := ⟨_, rfl⟩
      have HT := Lib.hid hT
      have HT' := Lib.hid hT'
      have HL := Lib.hid hL
      rw [hL] at HT HT' a3 b3 t1 t1'
      clear hT hT' hL
      have h0 : ((val != val) : Bool) = false := by simp
      have h1 : ((al != al) : Bool) = false := by simp
      have h2 : ((nx != nx) : Bool) = false := by simp
      go_wp2_with fail
      go_quiet (fail)
      generalize hwd : World.drewN wo _ = wd
      have hbd : Below wo.heap.size wo wd := by rw [← hwd]; exact below_drewN (Below.refl _ _) _
      clear hwd
      go_wp2_with fail
      go_loopw [6] (fun i w2 => ∃ j : Nat, j ≤ L ∧ i = .int .i64 j ∧ Below wo.heap.size wo w2) (fun i _ => L - (intOf i).toNat)
      case atStart => exact ⟨0, Nat.zero_le _, rfl, hbd⟩
      case round =>
        obtain ⟨j, hj, rfl, hb2⟩ := hrel
        have l0 := World.block_lt_of_cell? wo _ a3
        have l1 := World.block_lt_of_cell? wo _ b3
        have A3 := (hb2.cell l0).trans a3
        have B3 := (hb2.cell l1).trans b3
        by_cases hjl : j < L
        · obtain ⟨bt, id, uu, rfl, hbt, hdt, ta0, ta1⟩ := (HT.out.below hb2).elem (k := j) (by rw [HL.out]; exact hjl)
          obtain ⟨bt', id', uu', rfl, hbt', hdt', tb0, tb1⟩ := (HT'.out.below hb2).elem (k := j) (by rw [HL.out]; exact hjl)
          rw [hdt] at hdt'
          injection hdt' with hdt'
          injection hdt' with e1 e2
          subst e1 e2
          clear hdt
          go_wp2_with fail
          go_quiet (fail)
          generalize hwe : World.drewN wr _ = we
          have hbe : Below wo.heap.size wo we := by rw [← hwe]; exact below_drewN hb2 _
          clear hwe
          go_wp2_with fail
          go_roundw
          case rel => exact ⟨j + 1, by omega, by go_num, hbe⟩
          case measure => simp [intOf]; omega
        · have hjk : j = L := by omega
          subst hjk
          go_wp2_with fail
          go_roundw
          case rel => exact ⟨k + 1, by omega, by go_num, hb.trans (hb2.mono hb.size)⟩
          case measure => simp [intOf]; omega
    · have hk' : k = q := by omega
      subst hk'
      go_wp2_with fail
      go_ret
      exact ⟨rfl, hb⟩

theorem spec_share (cs : List CellD) (A : Option Addr) (q c : Nat) (x t : Int) (w : World) (h : RdC w (.slice A q c) cs) (hl : cs.length + tagSum cs ≤ 1048500) {m : List CellD} {p0 p1 cd : Int} (hm : shareA cs x t = (m, (p0, p1), cd)) :
    Calls Tryd.prog 25 #[.slice A q c, .agg #[.int .i64 x, .int .i64 t]] w (PtrPost w m p0 p1 cd) := by
  have h1 := specShareCell_any cs A q c x t w h (by omega)
  rw [hm] at h1
  exact h1

theorem impl_share (cs : List CellD) (A : Option Addr) (q c : Nat) (x t : Int) (w : World) (aI aF aL aR : Addr) (h : RdC w (.slice A q c) cs) (hl : cs.length + tagSum cs ≤ 1048500) (hE : Errs w aI aF aL aR) {m : List CellD} {p0 p1 cd : Int} (hm : shareA cs x t = (m, (p0, p1), cd)) :
    Calls Tryd.prog 24 #[.slice A q c, .agg #[.int .i64 x, .int .i64 t]] w (PtrPost w m p0 p1 cd) := by
  have h2 := shareA_sum (cs := cs) (x := x) (t := t)
  have h1 := implShareCell_any cs A q c x t w aI aF aL aR h (by omega) hE (by omega)
  rw [hm] at h1
  exact h1

theorem spec_borrow (cs : List CellD) (A : Option Addr) (q c : Nat) (x t : Int) (w : World) (h : RdC w (.slice A q c) cs) (hl : cs.length + tagSum cs ≤ 1048500) {m : List CellD} {p0 p1 cd : Int} (hm : borrowA cs x t = (m, (p0, p1), cd)) :
    Calls Tryd.prog 28 #[.slice A q c, .agg #[.int .i64 x, .int .i64 t]] w (PtrPost w m p0 p1 cd) := by
  have h1 := specBorrowCell_any cs A q c x t w h (by omega)
  rw [hm] at h1
  exact h1

theorem impl_borrow (cs : List CellD) (A : Option Addr) (q c : Nat) (x t : Int) (w : World) (aI aF aL aR : Addr) (h : RdC w (.slice A q c) cs) (hl : cs.length + tagSum cs ≤ 1048500) (hE : Errs w aI aF aL aR) {m : List CellD} {p0 p1 cd : Int} (hm : borrowA cs x t = (m, (p0, p1), cd)) :
    Calls Tryd.prog 27 #[.slice A q c, .agg #[.int .i64 x, .int .i64 t]] w (PtrPost w m p0 p1 cd) := by
  have h2 := borrowA_sum (cs := cs) (x := x) (t := t)
  have h1 := implBorrowCell_any cs A q c x t w aI aF aL aR h (by omega) hE (by omega)
  rw [hm] at h1
  exact h1

theorem impl_read (cs : List CellD) (A : Option Addr) (q c : Nat) (x t : Int) (w : World) (aI aF aL aR : Addr) (h : RdC w (.slice A q c) cs) (hl : cs.length + tagSum cs ≤ 1048500) (hE : Errs w aI aF aL aR) {m : List CellD} {v cd : Int} (hm : readA cs x t = (m, v, cd)) :
    Calls Tryd.prog 16 #[.slice A q c, .agg #[.int .i64 x, .int .i64 t]] w (IntPostI w m v cd) := by
  have h2 := readA_sum (cs := cs) (x := x) (t := t)
  have h1 := implReadCell_any cs A q c x t w aI aF aL aR h (by omega) hE (by omega)
  rw [hm] at h1
  exact h1

theorem impl_write (cs : List CellD) (A : Option Addr) (q c : Nat) (x t y : Int) (w : World) (aI aF aL aR : Addr) (h : RdC w (.slice A q c) cs) (hl : cs.length + tagSum cs ≤ 1048500) (hE : Errs w aI aF aL aR) {m : List CellD} {cd : Int} (hm : writeA cs x t y = (m, cd)) :
    Calls Tryd.prog 21 #[.slice A q c, .agg #[.int .i64 x, .int .i64 t], .int .i64 y] w (ChgPost w m cd) := by
  have h2 := writeA_sum (cs := cs) (x := x) (t := t) (v := y)
  have h1 := implWriteCell_any cs A q c x t y w aI aF aL aR h (by omega) hE (by omega)
  rw [hm] at h1
  exact h1

theorem spec_read (cs : List CellD) (A : Option Addr) (q c : Nat) (x t : Int) (w : World) (h : RdC w (.slice A q c) cs) (hl : cs.length + tagSum cs ≤ 1048500) {m : List CellD} {rv cd : Int} (hm : readA cs x t = (m, rv, cd)) :
    Calls Tryd.prog 17 #[.slice A q c, .agg #[.int .i64 x, .int .i64 t]] w (IntPostI w m rv cd) := by
  cases hh : hit cs x t with
  | error e =>
    have h1 := specReadCell_err cs A q c x t e w h (by omega) hh
    have e2 : readA cs x t = (cs, 0, e) := by unfold readA; rw [hh]
    rw [e2] at hm
    injection hm with h2 hm
    injection hm with h3 h4
    subst h2 h3 h4
    exact h1
  | ok ikd =>
    obtain ⟨i, k, d⟩ := ikd
    have h1 := specReadCell_ok cs A q c x t i k d w h (by omega) hh
    have e2 : readA cs x t = (cs.set i { d with tags := readT d.tags k }, d.val, 0) := by unfold readA; rw [hh]
    rw [e2] at hm
    injection hm with h2 hm
    injection hm with h3 h4
    subst h2 h3 h4
    exact h1

theorem impl_free (cs : List CellD) (A : Option Addr) (q c : Nat) (x t : Int) (w : World) (aI aF aL aR : Addr) (h : RdC w (.slice A q c) cs) (hl : cs.length + tagSum cs ≤ 1048500) (hE : Errs w aI aF aL aR) {m : List CellD} {cd : Int} (hm : freeA cs x t = (m, cd)) :
    Calls Tryd.prog 30 #[.slice A q c, .agg #[.int .i64 x, .int .i64 t]] w (ChgPost w m cd) := by
  have h2 := freeA_sum (cs := cs) (x := x) (t := t)
  have h1 := implFreeCell_any cs A q c x t w aI aF aL aR h (by omega) hE (by omega)
  rw [hm] at h1
  exact h1

/-- What holds while a new pointer is made: what was stays, and three cells. -/
abbrev TrK (w0 : World) (a1 a2 a3 : Addr) (v1 v2 v3 : Value) (w : World) : Prop := Below w0.heap.size w0 w ∧ w.cell? a1 = some v1 ∧ w.cell? a2 = some v2 ∧ w.cell? a3 = some v3

theorem trK_below {w0 : World} {a1 a2 a3 : Addr} {v1 v2 v3 : Value} {w w' : World} (h : TrK w0 a1 a2 a3 v1 v2 v3 w) (hb : Below w.heap.size w w') : TrK w0 a1 a2 a3 v1 v2 v3 w' :=
  ⟨h.1.trans (hb.mono h.1.size), (hb.cell (World.block_lt_of_cell? w _ h.2.1)).trans h.2.1, (hb.cell (World.block_lt_of_cell? w _ h.2.2.1)).trans h.2.2.1, (hb.cell (World.block_lt_of_cell? w _ h.2.2.2)).trans h.2.2.2⟩

theorem trK_alloc {w0 : World} {a1 a2 a3 : Addr} {v1 v2 v3 : Value} {w : World} (h : TrK w0 a1 a2 a3 v1 v2 v3 w) (o : Obj) : TrK w0 a1 a2 a3 v1 v2 v3 (w.alloc o) := trK_below h ((Below.refl _ _).alloc (Nat.le_refl _) o)

theorem trK_drew {w0 : World} {a1 a2 a3 : Addr} {v1 v2 v3 : Value} {w : World} (h : TrK w0 a1 a2 a3 v1 v2 v3 w) : TrK w0 a1 a2 a3 v1 v2 v3 w.drew := ⟨h.1.drew, h.2.1, h.2.2.1, h.2.2.2⟩

theorem trK_store {w0 : World} {a1 a2 a3 : Addr} {v1 v2 v3 : Value} {w : World} {g : Nat} (h0 : TrK w0 a1 a2 a3 v1 v2 v3 w0) (h : TrK w0 a1 a2 a3 v1 v2 v3 w) (hg : w0.heap.size ≤ g) (a b : Value) : TrK w0 a1 a2 a3 v1 v2 v3 ((w.setCell ⟨g, 0, none⟩ a).setCell ⟨g, 1, none⟩ b) := by
  have l1 := World.block_lt_of_cell? w0 _ h0.2.1
  have l2 := World.block_lt_of_cell? w0 _ h0.2.2.1
  have l3 := World.block_lt_of_cell? w0 _ h0.2.2.2
  have k : ∀ (w : World) (o : Nat) (x : Value) (p : Addr), p.block < w0.heap.size → (w.setCell ⟨g, o, none⟩ x).cell? p = w.cell? p := fun w o x p hp => World.cell?_setCell_other _ _ _ _ (fun e => by have := congrArg Addr.block e; simp at this; omega)
  exact ⟨(h.1.setCell hg _).setCell hg _, by rw [k _ _ _ _ l1, k _ _ _ _ l1]; exact h.2.1, by rw [k _ _ _ _ l2, k _ _ _ _ l2]; exact h.2.2.1, by rw [k _ _ _ _ l3, k _ _ _ _ l3]; exact h.2.2.2⟩

end Go.Proofs.YtfkoobdlhdolbaaDoor
