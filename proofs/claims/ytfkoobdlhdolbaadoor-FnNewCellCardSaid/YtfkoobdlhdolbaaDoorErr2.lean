/-
  The four errors of a memory, as the program lays them, and the code of each.
-/
import Derived.Test.YtfkoobdlhdolbaaDoorErr
namespace Go.Proofs.YtfkoobdlhdolbaaDoor
open Go.RowKit Go.Deep
set_option linter.unusedVariables false

/-- The four sentinels lie where the package's variables point, each a block of its own. -/
structure Errs (w : World) (aI aF aL aR : Addr) : Prop where
  gI : w.cell? ⟨0, 0, none⟩ = some (.iface 157 (.pointer (some aI)))
  gF : w.cell? ⟨1, 0, none⟩ = some (.iface 157 (.pointer (some aF)))
  gL : w.cell? ⟨2, 0, none⟩ = some (.iface 157 (.pointer (some aL)))
  gR : w.cell? ⟨3, 0, none⟩ = some (.iface 157 (.pointer (some aR)))
  bI : ∃ c t, w.heap[aI.block]? = some (.cells c t (0, 0))
  bF : ∃ c t, w.heap[aF.block]? = some (.cells c t (0, 0))
  bL : ∃ c t, w.heap[aL.block]? = some (.cells c t (0, 0))
  bR : ∃ c t, w.heap[aR.block]? = some (.cells c t (0, 0))
  nFL : aF ≠ aL
  nFR : aF ≠ aR
  nLR : aL ≠ aR
  nIF : aI ≠ aF
  nIL : aI ≠ aL
  nIR : aI ≠ aR

theorem Errs.below {w w' : World} {aI aF aL aR : Addr} (h : Errs w aI aF aL aR) (hb : Below w.heap.size w w') : Errs w' aI aF aL aR := by
  have e : ∀ {a : Addr} {u : Value}, w.cell? a = some u → w'.cell? a = some u := fun {a u} k => (hb.cell (World.block_lt_of_cell? w _ k)).trans k
  have f : ∀ {a : Addr}, (∃ c t, w.heap[a.block]? = some (.cells c t (0, 0))) → ∃ c t, w'.heap[a.block]? = some (.cells c t (0, 0)) := fun {a} ⟨c, t, k⟩ => ⟨c, t, (hb.block _ (heap_lt k)).trans k⟩
  exact ⟨e h.gI, e h.gF, e h.gL, e h.gR, f h.bI, f h.bF, f h.bL, f h.bR, h.nFL, h.nFR, h.nLR, h.nIF, h.nIL, h.nIR⟩

set_option maxRecDepth 100000 in
set_option maxHeartbeats 1000000 in
theorem codeOf_nil (w : World) : Calls Tryd.prog 81 #[.nilIface] w fun e w' => e = .returned (.int .i64 0) ∧ w' = w := by
  go_enter Tryd.func81, Tryd.ntmps81
  go_wp2_with fail
  go_ret
  exact ⟨rfl, rfl⟩

set_option maxRecDepth 100000 in
set_option maxHeartbeats 1000000 in
theorem codeOf_F (w : World) (aI aF aL aR : Addr) (h : Errs w aI aF aL aR) : Calls Tryd.prog 81 #[.iface 157 (.pointer (some aF))] w fun e w' => e = .returned (.int .i64 1) ∧ w' = w := by
  obtain ⟨cI, tI, hbI⟩ := h.bI
  obtain ⟨cF, tF, hbF⟩ := h.bF
  obtain ⟨cL, tL, hbL⟩ := h.bL
  obtain ⟨cR, tR, hbR⟩ := h.bR
  have x1 := h.gF
  have x2 := h.gL
  have x3 := h.gR
  have H := Lib.hid h
  have cF := Lib.hid (is_same aF w)
  clear h hbI hbF hbL hbR
  go_enter Tryd.func81, Tryd.ntmps81
  go_wp2_with fail
  refine cF.out.mono ?_
  rintro E w' ⟨rfl, rfl⟩
  go_wp2_with fail
  go_ret
  exact ⟨rfl, rfl⟩

set_option maxRecDepth 100000 in
set_option maxHeartbeats 1000000 in
theorem codeOf_L (w : World) (aI aF aL aR : Addr) (h : Errs w aI aF aL aR) : Calls Tryd.prog 81 #[.iface 157 (.pointer (some aL))] w fun e w' => e = .returned (.int .i64 2) ∧ w' = w := by
  obtain ⟨cI, tI, hbI⟩ := h.bI
  obtain ⟨cF, tF, hbF⟩ := h.bF
  obtain ⟨cL, tL, hbL⟩ := h.bL
  obtain ⟨cR, tR, hbR⟩ := h.bR
  have x1 := h.gF
  have x2 := h.gL
  have x3 := h.gR
  have H := Lib.hid h
  have cF := Lib.hid (is_other aL aF cL cF tL tF w (fun e => h.nFL e.symm) hbL hbF)
  have cL := Lib.hid (is_same aL w)
  clear h hbI hbF hbL hbR
  go_enter Tryd.func81, Tryd.ntmps81
  go_wp2_with fail
  refine cF.out.mono ?_
  rintro E w' ⟨rfl, rfl⟩
  go_wp2_with fail
  refine cL.out.mono ?_
  rintro E w' ⟨rfl, rfl⟩
  go_wp2_with fail
  go_ret
  exact ⟨rfl, rfl⟩

set_option maxRecDepth 100000 in
set_option maxHeartbeats 1000000 in
theorem codeOf_R (w : World) (aI aF aL aR : Addr) (h : Errs w aI aF aL aR) : Calls Tryd.prog 81 #[.iface 157 (.pointer (some aR))] w fun e w' => e = .returned (.int .i64 3) ∧ w' = w := by
  obtain ⟨cI, tI, hbI⟩ := h.bI
  obtain ⟨cF, tF, hbF⟩ := h.bF
  obtain ⟨cL, tL, hbL⟩ := h.bL
  obtain ⟨cR, tR, hbR⟩ := h.bR
  have x1 := h.gF
  have x2 := h.gL
  have x3 := h.gR
  have H := Lib.hid h
  have cF := Lib.hid (is_other aR aF cR cF tR tF w (fun e => h.nFR e.symm) hbR hbF)
  have cL := Lib.hid (is_other aR aL cR cL tR tL w (fun e => h.nLR e.symm) hbR hbL)
  have cR := Lib.hid (is_same aR w)
  clear h hbI hbF hbL hbR
  go_enter Tryd.func81, Tryd.ntmps81
  go_wp2_with fail
  refine cF.out.mono ?_
  rintro E w' ⟨rfl, rfl⟩
  go_wp2_with fail
  refine cL.out.mono ?_
  rintro E w' ⟨rfl, rfl⟩
  go_wp2_with fail
  refine cR.out.mono ?_
  rintro E w' ⟨rfl, rfl⟩
  go_wp2_with fail
  go_ret
  exact ⟨rfl, rfl⟩

set_option maxRecDepth 100000 in
set_option maxHeartbeats 1000000 in
theorem codeOf_I (w : World) (aI aF aL aR : Addr) (h : Errs w aI aF aL aR) : Calls Tryd.prog 81 #[.iface 157 (.pointer (some aI))] w fun e w' => e = .returned (.int .i64 4) ∧ w' = w := by
  obtain ⟨cI, tI, hbI⟩ := h.bI
  obtain ⟨cF, tF, hbF⟩ := h.bF
  obtain ⟨cL, tL, hbL⟩ := h.bL
  obtain ⟨cR, tR, hbR⟩ := h.bR
  have x1 := h.gF
  have x2 := h.gL
  have x3 := h.gR
  have H := Lib.hid h
  have cF := Lib.hid (is_other aI aF cI cF tI tF w h.nIF hbI hbF)
  have cL := Lib.hid (is_other aI aL cI cL tI tL w h.nIL hbI hbL)
  have cR := Lib.hid (is_other aI aR cI cR tI tR w h.nIR hbI hbR)
  clear h hbI hbF hbL hbR
  go_enter Tryd.func81, Tryd.ntmps81
  go_wp2_with fail
  refine cF.out.mono ?_
  rintro E w' ⟨rfl, rfl⟩
  go_wp2_with fail
  refine cL.out.mono ?_
  rintro E w' ⟨rfl, rfl⟩
  go_wp2_with fail
  refine cR.out.mono ?_
  rintro E w' ⟨rfl, rfl⟩
  go_wp2_with fail
  go_ret
  exact ⟨rfl, rfl⟩

end Go.Proofs.YtfkoobdlhdolbaaDoor
