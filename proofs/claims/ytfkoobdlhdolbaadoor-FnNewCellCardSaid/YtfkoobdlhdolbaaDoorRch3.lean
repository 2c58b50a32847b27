/-
  The program's way to a cell and its tag: a tag that is not there, and what is found.
-/
import Derived.Test.YtfkoobdlhdolbaaDoorRch2
namespace Go.Proofs.YtfkoobdlhdolbaaDoor
open Go.RowKit Go.Deep
set_option linter.unusedVariables false

set_option maxRecDepth 100000 in
set_option maxHeartbeats 1000000 in
theorem reach_lost (cs : List CellD) (A : Option Addr) (q c i : Nat) (t : Int) (d : CellD) (w : World) (T : TypeId) (u : Value) (h : RdM w (.slice A q c) cs) (hd : cs[i]? = some d) (hal : d.alive = true) (hlo : upT t d.tags.reverse = []) (hG : w.cell? ⟨2, 0, none⟩ = some (.iface T u)) :
    Calls Tryd.prog 91 #[.slice A q c, .agg #[.int .i64 (i : Int), .int .i64 t]] w (ReachErr w (.iface T u)) := by
  have hgl : 2 < w.heap.size := World.block_lt_of_cell? w _ hG
  have hgne : ¬ w.heap.size + 1 = 2 := by omega
  have hb0 := ((Below.refl w.heap.size w).alloc (Nat.le_refl _) (.cells #[.int .i64 (i : Int), .int .i64 t] 25)).alloc (by simp) (.cells #[.int .i64 0, .bool false, .int .i64 0, .pointer none] 96)
  obtain ⟨b, p, rfl, hbl, ⟨a0, a1, a2, a3⟩, hst⟩ := (h.below hb0).elem hd
  have hb1 := (Below.refl ((w.alloc (.cells #[.int .i64 (i : Int), .int .i64 t] 25)).alloc (.cells #[.int .i64 0, .bool false, .int .i64 0, .pointer none] 96)).heap.size ((w.alloc (.cells #[.int .i64 (i : Int), .int .i64 t] 25)).alloc (.cells #[.int .i64 0, .bool false, .int .i64 0, .pointer none] 96))).alloc (Nat.le_refl _) (.cells #[.int .i64 d.val, .bool d.alive, .int .i64 d.next, .pointer p] 96)
  have hb2 := hb0.alloc (by simp; omega) (.cells #[.int .i64 d.val, .bool d.alive, .int .i64 d.next, .pointer p] 96)
  have hX0 := (hb1.block w.heap.size (by simp; omega)).trans (new_first w (.cells #[.int .i64 (i : Int), .int .i64 t] 25) (.cells #[.int .i64 0, .bool false, .int .i64 0, .pointer none] 96))
  have hX1 := (hb1.block (w.heap.size + 1) (by simp)).trans (new_second w (.cells #[.int .i64 (i : Int), .int .i64 t] 25) (.cells #[.int .i64 0, .bool false, .int .i64 0, .pointer none] 96))
  have hX2 := heap_alloc_new ((w.alloc (.cells #[.int .i64 (i : Int), .int .i64 t] 25)).alloc (.cells #[.int .i64 0, .bool false, .int .i64 0, .pointer none] 96)) (.cells #[.int .i64 d.val, .bool d.alive, .int .i64 d.next, .pointer p] 96)
  have hgW0 := (hb2.cell (p := ⟨2, 0, none⟩) hgl).trans hG
  have hs2 := (hst.below hb1 (Nat.le_refl _)).mono hb1.size
  have x0' : ((w.alloc (.cells #[.int .i64 (i : Int), .int .i64 t] 25)).alloc (.cells #[.int .i64 0, .bool false, .int .i64 0, .pointer none] 96)).cell? ⟨w.heap.size, 0, none⟩ = some (.int .i64 (i : Int)) := (cell_of_block (new_first w (.cells #[.int .i64 (i : Int), .int .i64 t] 25) (.cells #[.int .i64 0, .bool false, .int .i64 0, .pointer none] 96)) 0).trans rfl
  have hz2 : ((w.alloc (.cells #[.int .i64 (i : Int), .int .i64 t] 25)).alloc (.cells #[.int .i64 0, .bool false, .int .i64 0, .pointer none] 96)).heap.size = w.heap.size + 2 := by simp
  rw [hz2] at hX2
  obtain ⟨W1, hW1⟩ : ∃ W1, (((w.alloc (.cells #[.int .i64 (i : Int), .int .i64 t] 25)).alloc (.cells #[.int .i64 0, .bool false, .int .i64 0, .pointer none] 96)).alloc (.cells #[.int .i64 d.val, .bool d.alive, .int .i64 d.next, .pointer p] 96)) = W1 := ⟨_, rfl⟩
  have HBW : Hid (Below w.heap.size w W1) := by rw [← hW1]; exact hb2
  have HX1 : Hid (W1.heap[w.heap.size + 1]? = some (.cells #[.int .i64 0, .bool false, .int .i64 0, .pointer none] 96 (0, 0))) := by rw [← hW1]; exact hX1
  have HX0 : Hid (W1.heap[w.heap.size]? = some (.cells #[.int .i64 (i : Int), .int .i64 t] 25 (0, 0))) := by rw [← hW1]; exact hX0
  have HX2 : Hid (W1.heap[w.heap.size + 2]? = some (.cells #[.int .i64 d.val, .bool d.alive, .int .i64 d.next, .pointer p] 96 (0, 0))) := by rw [← hW1]; exact hX2
  have hgW : W1.cell? ⟨2, 0, none⟩ = some (.iface T u) := by rw [← hW1]; exact hgW0
  have HS2 : Hid (Stk W1 W1.heap.size d.tags.reverse p) := by rw [← hW1]; exact hs2
  have HW1 := Lib.hid hW1
  have hiq : i < cs.length := (List.getElem?_eq_some_iff.1 hd).1
  have t1 : decide ((i : Int) < 0) = false := decide_eq_false (by omega)
  have t2 : decide ((q : Int) ≤ (i : Int)) = false := decide_eq_false (by have := h.len.1; omega)
  have hiq2 : i < q := by have := h.len.1; omega
  have hqc : q ≤ c ∧ c ≤ maxLen := h.len.2
  unfold maxLen at hqc
  clear hb0 hb1 hb2 hX0 hX1 hX2 hgW0 hG hW1 hst hs2 hz2 hd h
  rw [hal] at a1 HW1 HX2
  have HU := Lib.hid (upTo_any W1 W1.heap.size d.tags.reverse p t HS2.out)
  go_enter Tryd.func91, Tryd.ntmps91
  go_wp2_with fail
  rw [HW1.out]
  clear x0' a0 a1 a2 a3
  refine HU.out.mono ?_
  rintro E w' ⟨p', B, rfl, hsp, hch, rfl⟩
  rw [hlo] at hch
  have hp' : p' = none := hch.part
  subst hp'
  clear hsp hch HU
  go_wp2_with fail
  have q0 := (cell_of_block HX1.out 0).trans (show _ = some (.int .i64 0) from rfl)
  have q1 := (cell_of_block HX1.out 1).trans (show _ = some (.bool false) from rfl)
  have q2 := (cell_of_block HX1.out 2).trans (show _ = some (.int .i64 0) from rfl)
  have q3 := (cell_of_block HX1.out 3).trans (show _ = some (.pointer none) from rfl)
  have f0 := frozen_of_block HX1.out 0
  have f1 := frozen_of_block HX1.out 1
  have f2 := frozen_of_block HX1.out 2
  have f3 := frozen_of_block HX1.out 3
  have hS0 : GAt 2 (.iface T u) W1.drew := hgW
  have hS2 : GAt 2 (.iface T u) W1 := hgW
  go_region_held3 (GAt 2 (.iface T u))
    (first | with_reducible exact hS0 | with_reducible exact gAt_store hgne hS0 _ _ _ _ | with_reducible exact gAt_drew (gAt_store hgne hS2 _ _ _ _))
    (fail)
  have hfin := set_four HX1.out (.int .i64 0) (.bool false) (.int .i64 0) (.pointer none)
  have hbf : Below w.heap.size w ((((W1.setCell ⟨w.heap.size + 1, 0, none⟩ (.int .i64 0)).setCell ⟨w.heap.size + 1, 1, none⟩ (.bool false)).setCell ⟨w.heap.size + 1, 2, none⟩ (.int .i64 0)).setCell ⟨w.heap.size + 1, 3, none⟩ (.pointer none)) := (((HBW.out.setCell (by simp) _).setCell (by simp) _).setCell (by simp) _).setCell (by simp) _
  clear ‹GAt _ _ ((((W1.setCell _ _).setCell _ _).setCell _ _).setCell _ _)› hS0 hS2 q0 q1 q2 q3 f0 f1 f2 f3
  generalize (((W1.setCell ⟨w.heap.size + 1, 0, none⟩ (.int .i64 0)).setCell ⟨w.heap.size + 1, 1, none⟩ (.bool false)).setCell ⟨w.heap.size + 1, 2, none⟩ (.int .i64 0)).setCell ⟨w.heap.size + 1, 3, none⟩ (.pointer none) = W2 at *
  have z0 : W2.cell? ⟨w.heap.size + 1, 0, none⟩ = some (.int .i64 0) := (cell_of_block hfin 0).trans rfl
  have z1 : W2.cell? ⟨w.heap.size + 1, 1, none⟩ = some (.bool false) := (cell_of_block hfin 1).trans rfl
  have z2 : W2.cell? ⟨w.heap.size + 1, 2, none⟩ = some (.int .i64 0) := (cell_of_block hfin 2).trans rfl
  have z3 : W2.cell? ⟨w.heap.size + 1, 3, none⟩ = some (.pointer none) := (cell_of_block hfin 3).trans rfl
  go_wp2_with fail
  exact bodyPost_ret (v := .tuple #[.agg #[.int .i64 0, .bool false, .int .i64 0, .pointer none], .pointer none, .iface T u]) (by simp [results, Tryd.results91, go_sem, z0, z1, z2, z3]) rfl ⟨rfl, hbf.drew⟩

/-- A write into a block of another type leaves a chain as it is. -/
theorem Chain.setType {w : World} {T : TypeId} {cur : Array Value} {fr : Nat × Nat} {g : Nat} {part : List TagD} {pp : Option Addr} : ∀ {B : List TagD} {hi : Nat} {p : Option Addr}, Chain w part pp hi B p → w.heap[g]? = some (.cells cur T fr) → T ≠ 119 → ∀ (o : Nat) (x : Value), Chain (w.setCell ⟨g, o, none⟩ x) part pp hi B p
  | [], _, _, h, hc, hT, o, x => ⟨h.1, Stk.setType h.2 hc hT o x⟩
  | t :: ts, hi, p, ⟨k, pb, e1, e2, e3, e4⟩, hc, hT, o, x => by
    refine ⟨k, pb, e1, e2, ?_, Chain.setType e4 hc hT o x⟩
    rw [heap_set (by rintro rfl; rw [e3] at hc; injection hc with hc; injection hc with _ hc _; exact hT hc.symm)]
    exact e3

/-- What is found: the cell, and the part of its stack from the tag on. -/
def ReachOk (w : World) (d : CellD) (t : Int) (E : Ending) (w' : World) : Prop := ∃ (p p' : Option Addr) (B : List TagD), E = .returned (.tuple #[.agg #[.int .i64 d.val, .bool true, .int .i64 d.next, .pointer p], .pointer p', .nilIface]) ∧ d.tags.reverse = B ++ upT t d.tags.reverse ∧ Chain w' (upT t d.tags.reverse) p' w'.heap.size B p ∧ Below w.heap.size w w'

set_option maxRecDepth 100000 in
set_option maxHeartbeats 1000000 in
theorem reach_ok (cs : List CellD) (A : Option Addr) (q c i : Nat) (t : Int) (d : CellD) (w : World) (T : TypeId) (u : Value) (h : RdM w (.slice A q c) cs) (hd : cs[i]? = some d) (hal : d.alive = true) (hlo : upT t d.tags.reverse ≠ []) (hG : w.cell? ⟨2, 0, none⟩ = some (.iface T u)) :
    Calls Tryd.prog 91 #[.slice A q c, .agg #[.int .i64 (i : Int), .int .i64 t]] w (ReachOk w d t) := by
  have hgl : 2 < w.heap.size := World.block_lt_of_cell? w _ hG
  have hgne : ¬ w.heap.size + 1 = 2 := by omega
  have hb0 := ((Below.refl w.heap.size w).alloc (Nat.le_refl _) (.cells #[.int .i64 (i : Int), .int .i64 t] 25)).alloc (by simp) (.cells #[.int .i64 0, .bool false, .int .i64 0, .pointer none] 96)
  obtain ⟨b, p, rfl, hbl, ⟨a0, a1, a2, a3⟩, hst⟩ := (h.below hb0).elem hd
  have hb1 := (Below.refl ((w.alloc (.cells #[.int .i64 (i : Int), .int .i64 t] 25)).alloc (.cells #[.int .i64 0, .bool false, .int .i64 0, .pointer none] 96)).heap.size ((w.alloc (.cells #[.int .i64 (i : Int), .int .i64 t] 25)).alloc (.cells #[.int .i64 0, .bool false, .int .i64 0, .pointer none] 96))).alloc (Nat.le_refl _) (.cells #[.int .i64 d.val, .bool d.alive, .int .i64 d.next, .pointer p] 96)
  have hb2 := hb0.alloc (by simp; omega) (.cells #[.int .i64 d.val, .bool d.alive, .int .i64 d.next, .pointer p] 96)
  have hX0 := (hb1.block w.heap.size (by simp; omega)).trans (new_first w (.cells #[.int .i64 (i : Int), .int .i64 t] 25) (.cells #[.int .i64 0, .bool false, .int .i64 0, .pointer none] 96))
  have hX1 := (hb1.block (w.heap.size + 1) (by simp)).trans (new_second w (.cells #[.int .i64 (i : Int), .int .i64 t] 25) (.cells #[.int .i64 0, .bool false, .int .i64 0, .pointer none] 96))
  have hX2 := heap_alloc_new ((w.alloc (.cells #[.int .i64 (i : Int), .int .i64 t] 25)).alloc (.cells #[.int .i64 0, .bool false, .int .i64 0, .pointer none] 96)) (.cells #[.int .i64 d.val, .bool d.alive, .int .i64 d.next, .pointer p] 96)
  have hgW0 := (hb2.cell (p := ⟨2, 0, none⟩) hgl).trans hG
  have hs2 := (hst.below hb1 (Nat.le_refl _)).mono hb1.size
  have x0' : ((w.alloc (.cells #[.int .i64 (i : Int), .int .i64 t] 25)).alloc (.cells #[.int .i64 0, .bool false, .int .i64 0, .pointer none] 96)).cell? ⟨w.heap.size, 0, none⟩ = some (.int .i64 (i : Int)) := (cell_of_block (new_first w (.cells #[.int .i64 (i : Int), .int .i64 t] 25) (.cells #[.int .i64 0, .bool false, .int .i64 0, .pointer none] 96)) 0).trans rfl
  have hz2 : ((w.alloc (.cells #[.int .i64 (i : Int), .int .i64 t] 25)).alloc (.cells #[.int .i64 0, .bool false, .int .i64 0, .pointer none] 96)).heap.size = w.heap.size + 2 := by simp
  rw [hz2] at hX2
  obtain ⟨W1, hW1⟩ : ∃ W1, (((w.alloc (.cells #[.int .i64 (i : Int), .int .i64 t] 25)).alloc (.cells #[.int .i64 0, .bool false, .int .i64 0, .pointer none] 96)).alloc (.cells #[.int .i64 d.val, .bool d.alive, .int .i64 d.next, .pointer p] 96)) = W1 := ⟨_, rfl⟩
  have HBW : Hid (Below w.heap.size w W1) := by rw [← hW1]; exact hb2
  have HX1 : Hid (W1.heap[w.heap.size + 1]? = some (.cells #[.int .i64 0, .bool false, .int .i64 0, .pointer none] 96 (0, 0))) := by rw [← hW1]; exact hX1
  have HX0 : Hid (W1.heap[w.heap.size]? = some (.cells #[.int .i64 (i : Int), .int .i64 t] 25 (0, 0))) := by rw [← hW1]; exact hX0
  have HX2 : Hid (W1.heap[w.heap.size + 2]? = some (.cells #[.int .i64 d.val, .bool d.alive, .int .i64 d.next, .pointer p] 96 (0, 0))) := by rw [← hW1]; exact hX2
  have hgW : W1.cell? ⟨2, 0, none⟩ = some (.iface T u) := by rw [← hW1]; exact hgW0
  have HS2 : Hid (Stk W1 W1.heap.size d.tags.reverse p) := by rw [← hW1]; exact hs2
  have HW1 := Lib.hid hW1
  have hiq : i < cs.length := (List.getElem?_eq_some_iff.1 hd).1
  have t1 : decide ((i : Int) < 0) = false := decide_eq_false (by omega)
  have t2 : decide ((q : Int) ≤ (i : Int)) = false := decide_eq_false (by have := h.len.1; omega)
  have hiq2 : i < q := by have := h.len.1; omega
  have hqc : q ≤ c ∧ c ≤ maxLen := h.len.2
  unfold maxLen at hqc
  clear hb0 hb1 hb2 hX0 hX1 hX2 hgW0 hG hW1 hst hs2 hz2 hd h
  rw [hal] at a1 HW1 HX2
  have HU := Lib.hid (upTo_any W1 W1.heap.size d.tags.reverse p t HS2.out)
  go_enter Tryd.func91, Tryd.ntmps91
  go_wp2_with fail
  rw [HW1.out]
  clear x0' a0 a1 a2 a3
  refine HU.out.mono ?_
  rintro E w' ⟨p', B, rfl, hsp, hch, rfl⟩
  obtain ⟨gp, hgp⟩ : ∃ gp, p' = some ⟨gp, 0, none⟩ := by
    cases hu : upT t d.tags.reverse with
    | nil => exact absurd hu hlo
    | cons s ss =>
      rw [hu] at hch
      obtain ⟨k, pb, e1, _⟩ := hch.part
      exact ⟨k, e1⟩
  subst hgp
  have y0 : W1.cell? ⟨w.heap.size + 2, 0, none⟩ = some (.int .i64 d.val) := (cell_of_block HX2.out 0).trans rfl
  have y1 : W1.cell? ⟨w.heap.size + 2, 1, none⟩ = some (.bool true) := (cell_of_block HX2.out 1).trans rfl
  have y2 : W1.cell? ⟨w.heap.size + 2, 2, none⟩ = some (.int .i64 d.next) := (cell_of_block HX2.out 2).trans rfl
  have y3 : W1.cell? ⟨w.heap.size + 2, 3, none⟩ = some (.pointer p) := (cell_of_block HX2.out 3).trans rfl
  have q0 := (cell_of_block HX1.out 0).trans (show _ = some (.int .i64 0) from rfl)
  have q1 := (cell_of_block HX1.out 1).trans (show _ = some (.bool false) from rfl)
  have q2 := (cell_of_block HX1.out 2).trans (show _ = some (.int .i64 0) from rfl)
  have q3 := (cell_of_block HX1.out 3).trans (show _ = some (.pointer none) from rfl)
  have f0 := frozen_of_block HX1.out 0
  have f1 := frozen_of_block HX1.out 1
  have f2 := frozen_of_block HX1.out 2
  have f3 := frozen_of_block HX1.out 3
  have HSP := Lib.hid hsp
  have HCH := Lib.hid (Chain.setType (Chain.setType (Chain.setType (Chain.setType hch HX1.out (by decide) 0 (.int .i64 d.val)) (set_keeps HX1.out 0 _) (by decide) 1 (.bool true)) (set_keeps (set_keeps HX1.out 0 _) 1 _) (by decide) 2 (.int .i64 d.next)) (set_keeps (set_keeps (set_keeps HX1.out 0 _) 1 _) 2 _) (by decide) 3 (.pointer p))
  have hfin := set_four HX1.out (.int .i64 d.val) (.bool true) (.int .i64 d.next) (.pointer p)
  have hbf : Below w.heap.size w ((((W1.setCell ⟨w.heap.size + 1, 0, none⟩ (.int .i64 d.val)).setCell ⟨w.heap.size + 1, 1, none⟩ (.bool true)).setCell ⟨w.heap.size + 1, 2, none⟩ (.int .i64 d.next)).setCell ⟨w.heap.size + 1, 3, none⟩ (.pointer p)) := (((HBW.out.setCell (by simp) _).setCell (by simp) _).setCell (by simp) _).setCell (by simp) _
  have hsz : ((((W1.setCell ⟨w.heap.size + 1, 0, none⟩ (.int .i64 d.val)).setCell ⟨w.heap.size + 1, 1, none⟩ (.bool true)).setCell ⟨w.heap.size + 1, 2, none⟩ (.int .i64 d.next)).setCell ⟨w.heap.size + 1, 3, none⟩ (.pointer p)).heap.size = W1.heap.size := by simp [World.setCell]
  have z0 := (cell_of_block hfin 0).trans (show _ = some (.int .i64 d.val) from rfl)
  have z1 := (cell_of_block hfin 1).trans (show _ = some (.bool true) from rfl)
  have z2 := (cell_of_block hfin 2).trans (show _ = some (.int .i64 d.next) from rfl)
  have z3 := (cell_of_block hfin 3).trans (show _ = some (.pointer p) from rfl)
  have HSZ := Lib.hid hsz
  have HZ0 := Lib.hid z0
  have HZ1 := Lib.hid z1
  have HZ2 := Lib.hid z2
  have HZ3 := Lib.hid z3
  clear hsp hch HU hfin hsz z0 z1 z2 z3
  go_wp2_with fail
  have z0 := HZ0.out
  have z1 := HZ1.out
  have z2 := HZ2.out
  have z3 := HZ3.out
  exact bodyPost_ret (v := .tuple #[.agg #[.int .i64 d.val, .bool true, .int .i64 d.next, .pointer p], .pointer (some ⟨gp, 0, none⟩), .nilIface]) (by simp [results, Tryd.results91, go_sem, z0, z1, z2, z3]) rfl ⟨_, _, B, rfl, HSP.out, by rw [HSZ.out]; exact HCH.out, hbf⟩

end Go.Proofs.YtfkoobdlhdolbaaDoor
