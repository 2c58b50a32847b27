/-
  The program's add: another cell for a memory.
-/
import Derived.Test.YtfkoobdlhdolbaaDoorAd1
namespace Go.Proofs.YtfkoobdlhdolbaaDoor
open Go.RowKit Go.Deep
set_option linter.unusedVariables false

set_option maxRecDepth 100000 in
set_option maxHeartbeats 4000000 in
theorem add_bad (cs : List CellD) (A : Option Addr) (q c : Nat) (v : Int) (w : World) (T : TypeId) (u : Value) (h : RdM w (.slice A q c) cs) (hG : ErrI w (.iface T u)) (hbad : ¬ (0 ≤ v ∧ v ≤ 9 ∧ q < 200)) :
    Calls Tryd.prog 63 #[.slice A q c, .int .i64 v] w fun E w' => E = .returned (.tuple #[.slice A q c, .agg #[.int .i64 0, .int .i64 0], .iface T u]) ∧ Below w.heap.size w w' := by
  have hgl := World.block_lt_of_cell? w _ hG
  have hgne : ¬ w.heap.size = 0 := fun e => by
    have : 0 < w.heap.size := hgl
    omega
  have hb0 := (Below.refl w.heap.size w).alloc (Nat.le_refl _) (.cells #[.int .i64 0, .int .i64 0] 25)
  have hX := heap_alloc_new w (.cells #[.int .i64 0, .int .i64 0] 25)
  have x0 := (cell_of_block hX 0).trans (show _ = some (.int .i64 0) from rfl)
  have x1 := (cell_of_block hX 1).trans (show _ = some (.int .i64 0) from rfl)
  have f0 := frozen_of_block hX 0
  have f1 := frozen_of_block hX 1
  have y0 := (hb0.cell (p := ⟨0, 0, none⟩) hgl).trans hG
  have HBO := Lib.hid hb0
  have HN := Lib.hid (isNumber_any v)
  clear h hG hb0 hX
  by_cases hv : 0 ≤ v ∧ v ≤ 9
  · have t1 : decide (0 ≤ v ∧ v ≤ 9) = true := decide_eq_true hv
    have t2 : decide ((200 : Int) ≤ (q : Int)) = true := decide_eq_true (by omega)
    go_enter Tryd.func63, Tryd.ntmps63
    go_wp2_with fail
    refine (HN.out _).mono ?_
    rintro E w1 ⟨rfl, rfl⟩
    rw [t1]
    go_wp2_with fail
    have s0 : (w.alloc (.cells #[.int .i64 0, .int .i64 0] 25)).cell? ⟨w.heap.size, 0, none⟩ = some (held (w.alloc (.cells #[.int .i64 0, .int .i64 0] 25)) ⟨w.heap.size, 0, none⟩) := by unfold held; rw [x0]; rfl
    have s1 : (w.alloc (.cells #[.int .i64 0, .int .i64 0] 25)).cell? ⟨w.heap.size, 1, none⟩ = some (held (w.alloc (.cells #[.int .i64 0, .int .i64 0] 25)) ⟨w.heap.size, 1, none⟩) := by unfold held; rw [x1]; rfl
    obtain ⟨W1, hW1⟩ : ∃ W1, w.alloc (.cells #[.int .i64 0, .int .i64 0] 25) = W1 := ⟨_, rfl⟩
    have HBW : Hid (Below w.heap.size w W1) := by rw [← hW1]; exact HBO.out
    have HX0 := Lib.hid x0
    have HX1 := Lib.hid x1
    clear x0 x1
    rw [hW1] at HX0 HX1 f0 f1 y0 s0 s1 ⊢
    have hS0 : ErrK w.heap.size (.iface T u) W1.drew := ⟨y0, s0, s1, f0, f1⟩
    clear hW1
    go_region_held3 (ErrK w.heap.size (.iface T u))
      (first | exact hS0 | exact (errK_store hgne ‹_› _ _))
      (fail)
    obtain ⟨z0, z1⟩ := set_pair HX0.out HX1.out (.int .i64 0) (.int .i64 0)
    have hbf : Below w.heap.size w ((W1.setCell ⟨w.heap.size, 0, none⟩ (.int .i64 0)).setCell ⟨w.heap.size, 1, none⟩ (.int .i64 0)) := (HBW.out.setCell (Nat.le_refl _) _).setCell (Nat.le_refl _) _
    clear ‹ErrK w.heap.size (.iface T u) _› hS0
    generalize (W1.setCell ⟨w.heap.size, 0, none⟩ (.int .i64 0)).setCell ⟨w.heap.size, 1, none⟩ (.int .i64 0) = W2 at *
    go_wp2_with fail
    exact bodyPost_ret (v := .tuple #[.slice A q c, .agg #[.int .i64 0, .int .i64 0], .iface T u]) (by simp [results, Tryd.results63, go_sem, z0, z1]) rfl ⟨rfl, hbf.drew⟩
  · have t1 : decide (0 ≤ v ∧ v ≤ 9) = false := decide_eq_false hv
    go_enter Tryd.func63, Tryd.ntmps63
    go_wp2_with fail
    refine (HN.out _).mono ?_
    rintro E w1 ⟨rfl, rfl⟩
    rw [t1]
    go_wp2_with fail
    have s0 : (w.alloc (.cells #[.int .i64 0, .int .i64 0] 25)).cell? ⟨w.heap.size, 0, none⟩ = some (held (w.alloc (.cells #[.int .i64 0, .int .i64 0] 25)) ⟨w.heap.size, 0, none⟩) := by unfold held; rw [x0]; rfl
    have s1 : (w.alloc (.cells #[.int .i64 0, .int .i64 0] 25)).cell? ⟨w.heap.size, 1, none⟩ = some (held (w.alloc (.cells #[.int .i64 0, .int .i64 0] 25)) ⟨w.heap.size, 1, none⟩) := by unfold held; rw [x1]; rfl
    obtain ⟨W1, hW1⟩ : ∃ W1, w.alloc (.cells #[.int .i64 0, .int .i64 0] 25) = W1 := ⟨_, rfl⟩
    have HBW : Hid (Below w.heap.size w W1) := by rw [← hW1]; exact HBO.out
    have HX0 := Lib.hid x0
    have HX1 := Lib.hid x1
    clear x0 x1
    rw [hW1] at HX0 HX1 f0 f1 y0 s0 s1 ⊢
    have hS0 : ErrK w.heap.size (.iface T u) W1.drew := ⟨y0, s0, s1, f0, f1⟩
    clear hW1
    go_region_held3 (ErrK w.heap.size (.iface T u))
      (first | exact hS0 | exact (errK_store hgne ‹_› _ _))
      (fail)
    obtain ⟨z0, z1⟩ := set_pair HX0.out HX1.out (.int .i64 0) (.int .i64 0)
    have hbf : Below w.heap.size w ((W1.setCell ⟨w.heap.size, 0, none⟩ (.int .i64 0)).setCell ⟨w.heap.size, 1, none⟩ (.int .i64 0)) := (HBW.out.setCell (Nat.le_refl _) _).setCell (Nat.le_refl _) _
    clear ‹ErrK w.heap.size (.iface T u) _› hS0
    generalize (W1.setCell ⟨w.heap.size, 0, none⟩ (.int .i64 0)).setCell ⟨w.heap.size, 1, none⟩ (.int .i64 0) = W2 at *
    go_wp2_with fail
    exact bodyPost_ret (v := .tuple #[.slice A q c, .agg #[.int .i64 0, .int .i64 0], .iface T u]) (by simp [results, Tryd.results63, go_sem, z0, z1]) rfl ⟨rfl, hbf.drew⟩

end Go.Proofs.YtfkoobdlhdolbaaDoor
