/-
  What a read does to a cell.
-/
import Derived.Test.YtfkoobdlhdolbaaDoorAft
namespace Go.Proofs.YtfkoobdlhdolbaaDoor
open Go.RowKit Go.Deep
set_option linter.unusedVariables false

set_option maxRecDepth 100000 in
set_option maxHeartbeats 1000000 in
theorem afterRead_ok (v : Value) (x t : Int) (d : CellD) (w : World)  (hlo : upT t d.tags.reverse ≠ []) (hln : d.tags.length ≤ 1000) (hr : ∀ w1, Below w.heap.size w w1 → Calls Tryd.prog 91 #[v, .agg #[.int .i64 x, .int .i64 t]] w1 (ReachOk w1 d t)) :
    Calls Tryd.prog 75 #[v, .agg #[.int .i64 x, .int .i64 t]] w (fun E w' => ∃ p2, E = .returned (.tuple #[.agg #[.int .i64 d.val, .bool true, .int .i64 d.next, .pointer p2], .nilIface]) ∧ (∃ B, d.tags.reverse = B ++ upT t d.tags.reverse ∧ Stk w' w'.heap.size (B.filter (fun s => !s.u) ++ upT t d.tags.reverse) p2) ∧ Below w.heap.size w w') := by
  have hb0 := ((Below.refl w.heap.size w).alloc (Nat.le_refl _) (.cells #[.int .i64 x, .int .i64 t] 25)).alloc (by simp) (.cells #[.int .i64 0, .bool false, .int .i64 0, .pointer none] 96)
  have hX0 := new_first w (.cells #[.int .i64 x, .int .i64 t] 25) (.cells #[.int .i64 0, .bool false, .int .i64 0, .pointer none] 96)
  have hX1 := new_second w (.cells #[.int .i64 x, .int .i64 t] 25) (.cells #[.int .i64 0, .bool false, .int .i64 0, .pointer none] 96)
  have hc0 : ((w.alloc (.cells #[.int .i64 x, .int .i64 t] 25)).alloc (.cells #[.int .i64 0, .bool false, .int .i64 0, .pointer none] 96)).cell? ⟨w.heap.size, 0, none⟩ = some (.int .i64 x) := (cell_of_block hX0 0).trans rfl
  have hc1 : ((w.alloc (.cells #[.int .i64 x, .int .i64 t] 25)).alloc (.cells #[.int .i64 0, .bool false, .int .i64 0, .pointer none] 96)).cell? ⟨w.heap.size, 1, none⟩ = some (.int .i64 t) := (cell_of_block hX0 1).trans rfl
  have hz : ((w.alloc (.cells #[.int .i64 x, .int .i64 t] 25)).alloc (.cells #[.int .i64 0, .bool false, .int .i64 0, .pointer none] 96)).heap.size = w.heap.size + 2 := by simp
  have HR := Lib.hid (hr _ hb0)
  have HB0 := Lib.hid hb0
  have HX1 := Lib.hid hX1
  have HZ := Lib.hid hz
  clear hr hb0 hX0 hX1 hz
  go_enter Tryd.func75, Tryd.ntmps75
  go_wp2_with fail
  refine HR.out.mono ?_
  rintro E w2 ⟨p, p', B, rfl, hsp, hch, hb⟩
  rw [HZ.out] at hb
  have hbb : Below w.heap.size w w2 := HB0.out.trans (hb.mono (by omega))
  have hs := hb.size
  rw [HZ.out] at hs
  have hba := (Below.refl w2.heap.size w2).alloc (Nat.le_refl _) (.cells #[.int .i64 d.val, .bool true, .int .i64 d.next, .pointer p] 96)
  have hY := (hba.block (w.heap.size + 1) (by omega)).trans ((hb.block (w.heap.size + 1) (by omega)).trans HX1.out)
  have hT := heap_alloc_new w2 (.cells #[.int .i64 d.val, .bool true, .int .i64 d.next, .pointer p] 96)
  have hza : (w2.alloc (.cells #[.int .i64 d.val, .bool true, .int .i64 d.next, .pointer p] 96)).heap.size = w2.heap.size + 1 := by simp
  have hcha := Chain.keep (fun k hk => hba.block k hk) B w2.heap.size p (Nat.le_refl _) hch
  have hbb2 : Below w.heap.size w (w2.alloc (.cells #[.int .i64 d.val, .bool true, .int .i64 d.next, .pointer p] 96)) := hbb.alloc (by omega) _
  have HSP := Lib.hid hsp
  have HCH := Lib.hid hcha
  have HY := Lib.hid hY
  have HT := Lib.hid hT
  have HZA := Lib.hid (Nat.le_of_eq hza.symm)
  have HBB := Lib.hid hbb2
  clear hb hY hT hba hcha hch hsp hbb hza hbb2 hc0 hc1 HR
  go_wp2_with fail
  obtain ⟨W2, hW2⟩ : ∃ x, w2.alloc (.cells #[.int .i64 d.val, .bool true, .int .i64 d.next, .pointer p] 96) = x := ⟨_, rfl⟩
  rw [hW2] at HCH HY HT HZA HBB ⊢
  have y3 : W2.cell? ⟨w2.heap.size, 3, none⟩ = some (.pointer p) := (cell_of_block HT.out 3).trans rfl
  refine (sharedAbove_any (upT t d.tags.reverse) hlo B w2.heap.size p p' W2 HCH.out (by have := HZA.out; omega) (by rw [← HSP.out, List.length_reverse]; omega)).mono ?_
  rintro E w3 ⟨p2, rfl, hst, hb3⟩
  have hza := HZA.out
  have hT3 := (hb3.block w2.heap.size (by omega)).trans HT.out
  have hY3 := (hb3.block (w.heap.size + 1) (by omega)).trans HY.out
  have hbb3 : Below w.heap.size w w3 := HBB.out.trans (hb3.mono HBB.out.size)
  have hne : ¬ w2.heap.size = w.heap.size + 1 := by omega
  have hne' : ¬ w.heap.size + 1 = w2.heap.size := by omega
  have t0 := (cell_of_block hT3 0).trans (show _ = some (.int .i64 d.val) from rfl)
  have t1 := (cell_of_block hT3 1).trans (show _ = some (.bool true) from rfl)
  have t2 := (cell_of_block hT3 2).trans (show _ = some (.int .i64 d.next) from rfl)
  have t3 := (cell_of_block hT3 3).trans (show _ = some (.pointer p) from rfl)
  have g3 := frozen_of_block hT3 3
  have q0 := (cell_of_block hY3 0).trans (show _ = some (.int .i64 0) from rfl)
  have q1 := (cell_of_block hY3 1).trans (show _ = some (.bool false) from rfl)
  have q2 := (cell_of_block hY3 2).trans (show _ = some (.int .i64 0) from rfl)
  have q3 := (cell_of_block hY3 3).trans (show _ = some (.pointer none) from rfl)
  have f0 := frozen_of_block hY3 0
  have f1 := frozen_of_block hY3 1
  have f2 := frozen_of_block hY3 2
  have f3 := frozen_of_block hY3 3
  have hY4 : (w3.setCell ⟨w2.heap.size, 3, none⟩ (.pointer p2)).heap[w.heap.size + 1]? = some (.cells #[.int .i64 0, .bool false, .int .i64 0, .pointer none] 96 (0, 0)) := (heap_set hne').trans hY3
  have hfin := set_four hY4 (.int .i64 d.val) (.bool true) (.int .i64 d.next) (.pointer p2)
  have hst4 := Stk.setType (Stk.setType (Stk.setType (Stk.setType (Stk.setType hst hT3 (by decide) 3 (.pointer p2)) hY4 (by decide) 0 (.int .i64 d.val)) (set_keeps hY4 0 _) (by decide) 1 (.bool true)) (set_keeps (set_keeps hY4 0 _) 1 _) (by decide) 2 (.int .i64 d.next)) (set_keeps (set_keeps (set_keeps hY4 0 _) 1 _) 2 _) (by decide) 3 (.pointer p2)
  have hbf : Below w.heap.size w (((((w3.setCell ⟨w2.heap.size, 3, none⟩ (.pointer p2)).setCell ⟨w.heap.size + 1, 0, none⟩ (.int .i64 d.val)).setCell ⟨w.heap.size + 1, 1, none⟩ (.bool true)).setCell ⟨w.heap.size + 1, 2, none⟩ (.int .i64 d.next)).setCell ⟨w.heap.size + 1, 3, none⟩ (.pointer p2)) := ((((hbb3.setCell (by show w.heap.size ≤ w2.heap.size; omega) _).setCell (by simp) _).setCell (by simp) _).setCell (by simp) _).setCell (by simp) _
  have hsz : (((((w3.setCell ⟨w2.heap.size, 3, none⟩ (.pointer p2)).setCell ⟨w.heap.size + 1, 0, none⟩ (.int .i64 d.val)).setCell ⟨w.heap.size + 1, 1, none⟩ (.bool true)).setCell ⟨w.heap.size + 1, 2, none⟩ (.int .i64 d.next)).setCell ⟨w.heap.size + 1, 3, none⟩ (.pointer p2)).heap.size = w3.heap.size := by simp [World.setCell]
  have z0 := (cell_of_block hfin 0).trans (show _ = some (.int .i64 d.val) from rfl)
  have z1 := (cell_of_block hfin 1).trans (show _ = some (.bool true) from rfl)
  have z2 := (cell_of_block hfin 2).trans (show _ = some (.int .i64 d.next) from rfl)
  have z3 := (cell_of_block hfin 3).trans (show _ = some (.pointer p2) from rfl)
  have HSZ := Lib.hid hsz
  have HST := Lib.hid hst4
  have HZ0 := Lib.hid z0
  have HZ1 := Lib.hid z1
  have HZ2 := Lib.hid z2
  have HZ3 := Lib.hid z3
  clear hst hb3 hT3 hY3 hY4 hfin hst4 hsz z0 z1 z2 z3 y3 hW2 hza
  go_wp2_with fail
  have z0 := HZ0.out
  have z1 := HZ1.out
  have z2 := HZ2.out
  have z3 := HZ3.out
  exact bodyPost_ret (v := .tuple #[.agg #[.int .i64 d.val, .bool true, .int .i64 d.next, .pointer p2], .nilIface]) (by simp [results, Tryd.results75, go_sem, z0, z1, z2, z3]) rfl ⟨p2, rfl, ⟨B, HSP.out, by rw [HSZ.out]; exact HST.out⟩, hbf⟩

end Go.Proofs.YtfkoobdlhdolbaaDoor
