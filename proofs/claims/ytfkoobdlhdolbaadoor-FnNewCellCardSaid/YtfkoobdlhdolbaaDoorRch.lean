/-
  The program's way to a cell and its tag: the errors, and what is found.
-/
import Derived.Test.YtfkoobdlhdolbaaDoorErr2
import Derived.Test.YtfkoobdlhdolbaaDoorAd2
import Derived.Test.YtfkoobdlhdolbaaDoorStk2
namespace Go.Proofs.YtfkoobdlhdolbaaDoor
open Go.RowKit Go.Deep
set_option linter.unusedVariables false

/-- What holds while an error is answered beside an empty place: the error's variable. -/
abbrev GAt (g : Nat) (ev : Value) (w : World) : Prop := w.cell? ⟨g, 0, none⟩ = some ev

theorem gAt_drew {g : Nat} {ev : Value} {w : World} (h : GAt g ev w) : GAt g ev w.drew := h

theorem gAt_store {g n : Nat} {ev : Value} {w : World} (hn : ¬ n = g) (h : GAt g ev w) (a b c d : Value) : GAt g ev ((((w.setCell ⟨n, 0, none⟩ a).setCell ⟨n, 1, none⟩ b).setCell ⟨n, 2, none⟩ c).setCell ⟨n, 3, none⟩ d) := by
  have far : ∀ (w : World) (o : Nat) (x : Value), (w.setCell ⟨n, o, none⟩ x).cell? ⟨g, 0, none⟩ = w.cell? ⟨g, 0, none⟩ := fun w o x => World.cell?_setCell_other _ _ _ _ (fun e => hn (congrArg Addr.block e))
  show World.cell? _ _ = _
  rw [far, far, far, far]
  exact h

theorem set_four {n : Nat} {w : World} {T : TypeId} {a0 b0 c0 d0 : Value} (hX : w.heap[n]? = some (.cells #[a0, b0, c0, d0] T (0, 0))) (a b c d : Value) :
    ((((w.setCell ⟨n, 0, none⟩ a).setCell ⟨n, 1, none⟩ b).setCell ⟨n, 2, none⟩ c).setCell ⟨n, 3, none⟩ d).heap[n]? = some (.cells #[a, b, c, d] T (0, 0)) := by
  simp [World.setCell, Array.getElem?_modify, hX]

/-- What an error answers. -/
def ReachErr (w : World) (ev : Value) (E : Ending) (w' : World) : Prop := E = .returned (.tuple #[.agg #[.int .i64 0, .bool false, .int .i64 0, .pointer none], .pointer none, ev]) ∧ Below w.heap.size w w'

set_option maxRecDepth 100000 in
set_option maxHeartbeats 1000000 in
theorem reach_bad (A : Option Addr) (q c : Nat) (x t : Int) (w : World) (T : TypeId) (u : Value) (hG : ErrI w (.iface T u)) (hbad : ¬ (0 ≤ x ∧ x < q)) :
    Calls Tryd.prog 91 #[.slice A q c, .agg #[.int .i64 x, .int .i64 t]] w (ReachErr w (.iface T u)) := by
  have hgl : 0 < w.heap.size := World.block_lt_of_cell? w _ hG
  have hgne : ¬ w.heap.size + 1 = 0 := by omega
  have hb0 := ((Below.refl w.heap.size w).alloc (Nat.le_refl _) (.cells #[.int .i64 x, .int .i64 t] 25)).alloc (by simp) (.cells #[.int .i64 0, .bool false, .int .i64 0, .pointer none] 96)
  have hX0 := new_first w (.cells #[.int .i64 x, .int .i64 t] 25) (.cells #[.int .i64 0, .bool false, .int .i64 0, .pointer none] 96)
  have hX1 := new_second w (.cells #[.int .i64 x, .int .i64 t] 25) (.cells #[.int .i64 0, .bool false, .int .i64 0, .pointer none] 96)
  have hgW0 := (hb0.cell (p := ⟨0, 0, none⟩) hgl).trans hG
  have x0 : ((w.alloc (.cells #[.int .i64 x, .int .i64 t] 25)).alloc (.cells #[.int .i64 0, .bool false, .int .i64 0, .pointer none] 96)).cell? ⟨w.heap.size, 0, none⟩ = some (.int .i64 x) := (cell_of_block hX0 0).trans rfl
  obtain ⟨W1, hW1⟩ : ∃ W1, ((w.alloc (.cells #[.int .i64 x, .int .i64 t] 25)).alloc (.cells #[.int .i64 0, .bool false, .int .i64 0, .pointer none] 96)) = W1 := ⟨_, rfl⟩
  have HBW : Hid (Below w.heap.size w W1) := by rw [← hW1]; exact hb0
  have HX1 : Hid (W1.heap[w.heap.size + 1]? = some (.cells #[.int .i64 0, .bool false, .int .i64 0, .pointer none] 96 (0, 0))) := by rw [← hW1]; exact hX1
  have hgW : W1.cell? ⟨0, 0, none⟩ = some (.iface T u) := by rw [← hW1]; exact hgW0
  have HX0 : Hid (W1.cell? ⟨w.heap.size, 0, none⟩ = some (.int .i64 x)) := by rw [← hW1]; exact x0
  have HW1 := Lib.hid hW1
  clear hb0 hX0 hX1 hgW0 hG hW1
  by_cases h0 : x < 0
  · have t1 : decide (x < 0) = true := decide_eq_true h0
    go_enter Tryd.func91, Tryd.ntmps91
    go_wp2_with fail
    rw [HW1.out]
    clear x0
    have q0 := (cell_of_block HX1.out 0).trans (show _ = some (.int .i64 0) from rfl)
    have q1 := (cell_of_block HX1.out 1).trans (show _ = some (.bool false) from rfl)
    have q2 := (cell_of_block HX1.out 2).trans (show _ = some (.int .i64 0) from rfl)
    have q3 := (cell_of_block HX1.out 3).trans (show _ = some (.pointer none) from rfl)
    have f0 := frozen_of_block HX1.out 0
    have f1 := frozen_of_block HX1.out 1
    have f2 := frozen_of_block HX1.out 2
    have f3 := frozen_of_block HX1.out 3
    have hS0 : GAt 0 (.iface T u) W1.drew := hgW
    have hS2 : GAt 0 (.iface T u) W1 := hgW
    go_region_held3 (GAt 0 (.iface T u))
      (first | with_reducible exact hS0 | with_reducible exact gAt_store hgne hS0 _ _ _ _ | with_reducible exact gAt_drew (gAt_store hgne hS2 _ _ _ _))
      (fail)
    have hfin := set_four HX1.out (.int .i64 0) (.bool false) (.int .i64 0) (.pointer none)
    have hbf : Below w.heap.size w ((((W1.setCell ⟨w.heap.size + 1, 0, none⟩ (.int .i64 0)).setCell ⟨w.heap.size + 1, 1, none⟩ (.bool false)).setCell ⟨w.heap.size + 1, 2, none⟩ (.int .i64 0)).setCell ⟨w.heap.size + 1, 3, none⟩ (.pointer none)) := (((HBW.out.setCell (by simp) _).setCell (by simp) _).setCell (by simp) _).setCell (by simp) _
    clear ‹GAt _ _ ((((W1.setCell _ _).setCell _ _).setCell _ _).setCell _ _)› hS0 hS2 q0 q1 q2 q3 f0 f1 f2 f3
    generalize (((W1.setCell ⟨w.heap.size + 1, 0, none⟩ (.int .i64 0)).setCell ⟨w.heap.size + 1, 1, none⟩ (.bool false)).setCell ⟨w.heap.size + 1, 2, none⟩ (.int .i64 0)).setCell ⟨w.heap.size + 1, 3, none⟩ (.pointer none) = W2 at *
    have z0 : W2.cell? ⟨w.heap.size + 1, 0, none⟩ = some (.int .i64 0) := (cell_of_block hfin 0).trans rfl
    have z1 : W2.cell? ⟨w.heap.size + 1, 1, none⟩ = some (.bool false) := (cell_of_block hfin 1).trans rfl
    have z2 : W2.cell? ⟨w.heap.size + 1, 2, none⟩ = some (.int .i64 0) := (cell_of_block hfin 2).trans rfl
    have z3 : W2.cell? ⟨w.heap.size + 1, 3, none⟩ = some (.pointer none) := (cell_of_block hfin 3).trans rfl
    go_wp2_with fail
    exact bodyPost_ret (v := .tuple #[.agg #[.int .i64 0, .bool false, .int .i64 0, .pointer none], .pointer none, .iface T u]) (by simp [results, Tryd.results91, go_sem, z0, z1, z2, z3]) rfl ⟨rfl, hbf.drew⟩
  · have t1 : decide (x < 0) = false := decide_eq_false h0
    have t2 : decide ((q : Int) ≤ x) = true := decide_eq_true (by omega)
    go_enter Tryd.func91, Tryd.ntmps91
    go_wp2_with fail
    rw [HW1.out]
    clear x0
    have q0 := (cell_of_block HX1.out 0).trans (show _ = some (.int .i64 0) from rfl)
    have q1 := (cell_of_block HX1.out 1).trans (show _ = some (.bool false) from rfl)
    have q2 := (cell_of_block HX1.out 2).trans (show _ = some (.int .i64 0) from rfl)
    have q3 := (cell_of_block HX1.out 3).trans (show _ = some (.pointer none) from rfl)
    have f0 := frozen_of_block HX1.out 0
    have f1 := frozen_of_block HX1.out 1
    have f2 := frozen_of_block HX1.out 2
    have f3 := frozen_of_block HX1.out 3
    have hS0 : GAt 0 (.iface T u) W1.drew := hgW
    have hS2 : GAt 0 (.iface T u) W1 := hgW
    go_region_held3 (GAt 0 (.iface T u))
      (first | with_reducible exact hS0 | with_reducible exact gAt_store hgne hS0 _ _ _ _ | with_reducible exact gAt_drew (gAt_store hgne hS2 _ _ _ _))
      (fail)
    have hfin := set_four HX1.out (.int .i64 0) (.bool false) (.int .i64 0) (.pointer none)
    have hbf : Below w.heap.size w ((((W1.setCell ⟨w.heap.size + 1, 0, none⟩ (.int .i64 0)).setCell ⟨w.heap.size + 1, 1, none⟩ (.bool false)).setCell ⟨w.heap.size + 1, 2, none⟩ (.int .i64 0)).setCell ⟨w.heap.size + 1, 3, none⟩ (.pointer none)) := (((HBW.out.setCell (by simp) _).setCell (by simp) _).setCell (by simp) _).setCell (by simp) _
    clear ‹GAt _ _ ((((W1.setCell _ _).setCell _ _).setCell _ _).setCell _ _)› hS0 hS2 q0 q1 q2 q3 f0 f1 f2 f3
    generalize (((W1.setCell ⟨w.heap.size + 1, 0, none⟩ (.int .i64 0)).setCell ⟨w.heap.size + 1, 1, none⟩ (.bool false)).setCell ⟨w.heap.size + 1, 2, none⟩ (.int .i64 0)).setCell ⟨w.heap.size + 1, 3, none⟩ (.pointer none) = W2 at *
    have z0 : W2.cell? ⟨w.heap.size + 1, 0, none⟩ = some (.int .i64 0) := (cell_of_block hfin 0).trans rfl
    have z1 : W2.cell? ⟨w.heap.size + 1, 1, none⟩ = some (.bool false) := (cell_of_block hfin 1).trans rfl
    have z2 : W2.cell? ⟨w.heap.size + 1, 2, none⟩ = some (.int .i64 0) := (cell_of_block hfin 2).trans rfl
    have z3 : W2.cell? ⟨w.heap.size + 1, 3, none⟩ = some (.pointer none) := (cell_of_block hfin 3).trans rfl
    go_wp2_with fail
    exact bodyPost_ret (v := .tuple #[.agg #[.int .i64 0, .bool false, .int .i64 0, .pointer none], .pointer none, .iface T u]) (by simp [results, Tryd.results91, go_sem, z0, z1, z2, z3]) rfl ⟨rfl, hbf.drew⟩

end Go.Proofs.YtfkoobdlhdolbaaDoor
