/-
  The program's add: another cell for a memory.
-/
import Derived.Test.YtboadhlhpnbpiaaDoorMemC
import Derived.Test.YtboadhlhpnbpiaaDoorCelB
import Derived.Test.YtboadhlhpnbpiaaDoorCelRd
import Derived.Test.YtboadhlhpnbpiaaDoorCelX
import Derived.Deep.RegionHeld3
namespace Go.Proofs.YtboadhlhpnbpiaaDoor
open Go.RowKit Go.Deep
set_option linter.unusedVariables false

/-- The place of the error for arguments that are not valid. -/
def ErrI (w : World) (ev : Value) : Prop := w.cell? ⟨0, 0, none⟩ = some ev

/-- What holds while an error is answered: the error's place, and the two cells of an answer's pointer. -/
abbrev ErrK (n : Nat) (ev : Value) (w : World) : Prop := w.cell? ⟨0, 0, none⟩ = some ev ∧ w.cell? ⟨n, 0, none⟩ = some (held w ⟨n, 0, none⟩) ∧ w.cell? ⟨n, 1, none⟩ = some (held w ⟨n, 1, none⟩) ∧ w.frozen? ⟨n, 0, none⟩ = false ∧ w.frozen? ⟨n, 1, none⟩ = false

theorem errK_store {n : Nat} {ev : Value} {w : World} (hn : ¬ n = 0) (h : ErrK n ev w) (a b : Value) : ErrK n ev ((w.setCell ⟨n, 0, none⟩ a).setCell ⟨n, 1, none⟩ b) := by
  obtain ⟨h1, h2, h3, h4, h5⟩ := h
  have e0 : (w.setCell ⟨n, 0, none⟩ a).cell? ⟨n, 0, none⟩ = some a := World.cell?_setCell_same _ _ _ h2
  have e1 : (w.setCell ⟨n, 0, none⟩ a).cell? ⟨n, 1, none⟩ = some (held w ⟨n, 1, none⟩) := (World.cell?_setCell_other _ _ _ _ (by simp)).trans h3
  have e2 : ((w.setCell ⟨n, 0, none⟩ a).setCell ⟨n, 1, none⟩ b).cell? ⟨n, 0, none⟩ = some a := (World.cell?_setCell_other _ _ _ _ (by simp)).trans e0
  have e3 : ((w.setCell ⟨n, 0, none⟩ a).setCell ⟨n, 1, none⟩ b).cell? ⟨n, 1, none⟩ = some b := World.cell?_setCell_same _ _ _ e1
  refine ⟨?_, ?_, ?_, ?_, ?_⟩
  · exact (World.cell?_setCell_other _ _ _ _ (fun e => hn (congrArg Addr.block e))).trans ((World.cell?_setCell_other _ _ _ _ (fun e => hn (congrArg Addr.block e))).trans h1)
  · unfold held; rw [e2]; rfl
  · unfold held; rw [e3]; rfl
  · rw [World.frozen?_setCell, World.frozen?_setCell]; exact h4
  · rw [World.frozen?_setCell, World.frozen?_setCell]; exact h5

theorem set_pair {n : Nat} {w : World} {a0 a1 : Value} (h0 : w.cell? ⟨n, 0, none⟩ = some a0) (h1 : w.cell? ⟨n, 1, none⟩ = some a1) (a b : Value) :
    ((w.setCell ⟨n, 0, none⟩ a).setCell ⟨n, 1, none⟩ b).cell? ⟨n, 0, none⟩ = some a ∧ ((w.setCell ⟨n, 0, none⟩ a).setCell ⟨n, 1, none⟩ b).cell? ⟨n, 1, none⟩ = some b :=
  ⟨(World.cell?_setCell_other _ _ _ _ (by simp)).trans (World.cell?_setCell_same _ _ _ h0), World.cell?_setCell_same _ _ _ ((World.cell?_setCell_other _ _ _ _ (by simp)).trans h1)⟩

set_option maxRecDepth 100000 in
set_option maxHeartbeats 4000000 in
theorem add_bad (cs : List CellD) (A : Option Addr) (q c : Nat) (v : Int) (w : World) (T : TypeId) (u : Value) (h : RdM w (.slice A q c) cs) (hG : ErrI w (.iface T u)) (hbad : ¬ (0 ≤ v ∧ v ≤ 9 ∧ q < 200)) :
    Calls Tryd.prog 37 #[.slice A q c, .int .i64 v] w fun E w' => E = .returned (.tuple #[.slice A q c, .agg #[.int .i64 0, .int .i64 0], .iface T u]) ∧ Below w.heap.size w w' := by
  have hgl := World.block_lt_of_cell? w _ hG
  have hgne : ¬ w.heap.size = 0 := fun e => by
    have : 0 < w.heap.size := hgl
    omega
  have hb0 := (Below.refl w.heap.size w).alloc (Nat.le_refl _) (.cells #[.int .i64 0, .int .i64 0] 26)
  have hX := heap_alloc_new w (.cells #[.int .i64 0, .int .i64 0] 26)
  have x0 := (cell_of_block hX 0).trans (show _ = some (.int .i64 0) from rfl)
  have x1 := (cell_of_block hX 1).trans (show _ = some (.int .i64 0) from rfl)
  have f0 := frozen_of_block hX 0
  have f1 := frozen_of_block hX 1
  have y0 := (hb0.cell (p := ⟨0, 0, none⟩) hgl).trans hG
  have HBO := Lib.hid hb0
  have HN := Lib.hid (isNumber_any v)
  clear h hG hb0 hX
  by_cases hv : 0 ≤ v ∧ v ≤ 9
  · have t1 : decide (0 ≤ v ∧ v ≤ 9) = true := decide_eq_true hv
    have t2 : decide ((200 : Int) ≤ (q : Int)) = true := decide_eq_true (by omega)
    go_enter Tryd.func37, Tryd.ntmps37
    go_wp2_with fail
    refine (HN.out _).mono ?_
    rintro E w1 ⟨rfl, rfl⟩
    rw [t1]
    go_wp2_with fail
    have s0 : (w.alloc (.cells #[.int .i64 0, .int .i64 0] 26)).cell? ⟨w.heap.size, 0, none⟩ = some (held (w.alloc (.cells #[.int .i64 0, .int .i64 0] 26)) ⟨w.heap.size, 0, none⟩) := by unfold held; rw [x0]; rfl
    have s1 : (w.alloc (.cells #[.int .i64 0, .int .i64 0] 26)).cell? ⟨w.heap.size, 1, none⟩ = some (held (w.alloc (.cells #[.int .i64 0, .int .i64 0] 26)) ⟨w.heap.size, 1, none⟩) := by unfold held; rw [x1]; rfl
    obtain ⟨W1, hW1⟩ : ∃ W1, w.alloc (.cells #[.int .i64 0, .int .i64 0] 26) = W1 := ⟨_, rfl⟩
    have HBW : Hid (Below w.heap.size w W1) := by rw [← hW1]; exact HBO.out
    have HX0 := Lib.hid x0
    have HX1 := Lib.hid x1
    clear x0 x1
    rw [hW1] at HX0 HX1 f0 f1 y0 s0 s1 ⊢
    have hS0 : ErrK w.heap.size (.iface T u) W1.drew := ⟨y0, s0, s1, f0, f1⟩
    clear hW1
    go_region_held3 (ErrK w.heap.size (.iface T u))
      (first | exact hS0 | exact (errK_store hgne ‹_› _ _))
      (fail)
    obtain ⟨z0, z1⟩ := set_pair HX0.out HX1.out (.int .i64 0) (.int .i64 0)
    have hbf : Below w.heap.size w ((W1.setCell ⟨w.heap.size, 0, none⟩ (.int .i64 0)).setCell ⟨w.heap.size, 1, none⟩ (.int .i64 0)) := (HBW.out.setCell (Nat.le_refl _) _).setCell (Nat.le_refl _) _
    clear ‹ErrK w.heap.size (.iface T u) _› hS0
    generalize (W1.setCell ⟨w.heap.size, 0, none⟩ (.int .i64 0)).setCell ⟨w.heap.size, 1, none⟩ (.int .i64 0) = W2 at *
    go_wp2_with fail
    exact bodyPost_ret (v := .tuple #[.slice A q c, .agg #[.int .i64 0, .int .i64 0], .iface T u]) (by simp [results, Tryd.results37, go_sem, z0, z1]) rfl ⟨rfl, hbf.drew⟩
  · have t1 : decide (0 ≤ v ∧ v ≤ 9) = false := decide_eq_false hv
    go_enter Tryd.func37, Tryd.ntmps37
    go_wp2_with fail
    refine (HN.out _).mono ?_
    rintro E w1 ⟨rfl, rfl⟩
    rw [t1]
    go_wp2_with fail
    have s0 : (w.alloc (.cells #[.int .i64 0, .int .i64 0] 26)).cell? ⟨w.heap.size, 0, none⟩ = some (held (w.alloc (.cells #[.int .i64 0, .int .i64 0] 26)) ⟨w.heap.size, 0, none⟩) := by unfold held; rw [x0]; rfl
    have s1 : (w.alloc (.cells #[.int .i64 0, .int .i64 0] 26)).cell? ⟨w.heap.size, 1, none⟩ = some (held (w.alloc (.cells #[.int .i64 0, .int .i64 0] 26)) ⟨w.heap.size, 1, none⟩) := by unfold held; rw [x1]; rfl
    obtain ⟨W1, hW1⟩ : ∃ W1, w.alloc (.cells #[.int .i64 0, .int .i64 0] 26) = W1 := ⟨_, rfl⟩
    have HBW : Hid (Below w.heap.size w W1) := by rw [← hW1]; exact HBO.out
    have HX0 := Lib.hid x0
    have HX1 := Lib.hid x1
    clear x0 x1
    rw [hW1] at HX0 HX1 f0 f1 y0 s0 s1 ⊢
    have hS0 : ErrK w.heap.size (.iface T u) W1.drew := ⟨y0, s0, s1, f0, f1⟩
    clear hW1
    go_region_held3 (ErrK w.heap.size (.iface T u))
      (first | exact hS0 | exact (errK_store hgne ‹_› _ _))
      (fail)
    obtain ⟨z0, z1⟩ := set_pair HX0.out HX1.out (.int .i64 0) (.int .i64 0)
    have hbf : Below w.heap.size w ((W1.setCell ⟨w.heap.size, 0, none⟩ (.int .i64 0)).setCell ⟨w.heap.size, 1, none⟩ (.int .i64 0)) := (HBW.out.setCell (Nat.le_refl _) _).setCell (Nat.le_refl _) _
    clear ‹ErrK w.heap.size (.iface T u) _› hS0
    generalize (W1.setCell ⟨w.heap.size, 0, none⟩ (.int .i64 0)).setCell ⟨w.heap.size, 1, none⟩ (.int .i64 0) = W2 at *
    go_wp2_with fail
    exact bodyPost_ret (v := .tuple #[.slice A q c, .agg #[.int .i64 0, .int .i64 0], .iface T u]) (by simp [results, Tryd.results37, go_sem, z0, z1]) rfl ⟨rfl, hbf.drew⟩

end Go.Proofs.YtboadhlhpnbpiaaDoor
