/-
  What a write does to a cell.
-/
import Derived.Test.YtfkoobdlhdolbaaDoorAft2
namespace Go.Proofs.YtfkoobdlhdolbaaDoor
open Go.RowKit Go.Deep
set_option linter.unusedVariables false

set_option maxRecDepth 100000 in
set_option maxHeartbeats 1000000 in
theorem afterWrite_ok (v : Value) (x t : Int) (d : CellD) (w : World) (s : TagD) (rest : List TagD) (hup : upT t d.tags.reverse = s :: rest) (hu : s.u = true) (hln : d.tags.length ≤ 1000) (hr : ∀ w1, Below w.heap.size w w1 → Calls Tryd.prog 91 #[v, .agg #[.int .i64 x, .int .i64 t]] w1 (ReachOk w1 d t)) :
    Calls Tryd.prog 82 #[v, .agg #[.int .i64 x, .int .i64 t]] w (fun E w' => ∃ p2, E = .returned (.tuple #[.agg #[.int .i64 d.val, .bool true, .int .i64 d.next, .pointer p2], .nilIface]) ∧ Stk w' w'.heap.size (upT t d.tags.reverse) p2 ∧ Below w.heap.size w w') := by
  have hb0 := ((Below.refl w.heap.size w).alloc (Nat.le_refl _) (.cells #[.int .i64 x, .int .i64 t] 25)).alloc (by simp) (.cells #[.int .i64 0, .bool false, .int .i64 0, .pointer none] 96)
  have hX0 := new_first w (.cells #[.int .i64 x, .int .i64 t] 25) (.cells #[.int .i64 0, .bool false, .int .i64 0, .pointer none] 96)
  have hX1 := new_second w (.cells #[.int .i64 x, .int .i64 t] 25) (.cells #[.int .i64 0, .bool false, .int .i64 0, .pointer none] 96)
  have hc0 : ((w.alloc (.cells #[.int .i64 x, .int .i64 t] 25)).alloc (.cells #[.int .i64 0, .bool false, .int .i64 0, .pointer none] 96)).cell? ⟨w.heap.size, 0, none⟩ = some (.int .i64 x) := (cell_of_block hX0 0).trans rfl
  have hc1 : ((w.alloc (.cells #[.int .i64 x, .int .i64 t] 25)).alloc (.cells #[.int .i64 0, .bool false, .int .i64 0, .pointer none] 96)).cell? ⟨w.heap.size, 1, none⟩ = some (.int .i64 t) := (cell_of_block hX0 1).trans rfl
  have hz : ((w.alloc (.cells #[.int .i64 x, .int .i64 t] 25)).alloc (.cells #[.int .i64 0, .bool false, .int .i64 0, .pointer none] 96)).heap.size = w.heap.size + 2 := by simp
  have HR := Lib.hid (hr _ hb0)
  have HB0 := Lib.hid hb0
  have HX1 := Lib.hid hX1
  have HZ := Lib.hid hz
  clear hr hb0 hX0 hX1 hz
  go_enter Tryd.func82, Tryd.ntmps82
  go_wp2_with fail
  refine HR.out.mono ?_
  rintro E w2 ⟨p, p', B, rfl, hsp, hch, hb⟩
  rw [HZ.out] at hb
  have hbb : Below w.heap.size w w2 := HB0.out.trans (hb.mono (by omega))
  have hs := hb.size
  rw [HZ.out] at hs
  have hba := (Below.refl w2.heap.size w2).alloc (Nat.le_refl _) (.cells #[.int .i64 d.val, .bool true, .int .i64 d.next, .pointer p] 96)
  have hY := (hba.block (w.heap.size + 1) (by omega)).trans ((hb.block (w.heap.size + 1) (by omega)).trans HX1.out)
  have hT := heap_alloc_new w2 (.cells #[.int .i64 d.val, .bool true, .int .i64 d.next, .pointer p] 96)
  have hza : (w2.alloc (.cells #[.int .i64 d.val, .bool true, .int .i64 d.next, .pointer p] 96)).heap.size = w2.heap.size + 1 := by simp
  have hcha := Chain.keep (fun k hk => hba.block k hk) B w2.heap.size p (Nat.le_refl _) hch
  have hbb2 : Below w.heap.size w (w2.alloc (.cells #[.int .i64 d.val, .bool true, .int .i64 d.next, .pointer p] 96)) := hbb.alloc (by omega) _
  have HSP := Lib.hid hsp
  have HCH := Lib.hid hcha
  have HY := Lib.hid hY
  have HT := Lib.hid hT
  have HZA := Lib.hid (Nat.le_of_eq hza.symm)
  have HBB := Lib.hid hbb2
  clear hb hY hT hba hcha hch hsp hbb hza hbb2 hc0 hc1 HR
  obtain ⟨kp, pb, e1, hkl, hkc, -⟩ := (show Stk (w2.alloc (.cells #[.int .i64 d.val, .bool true, .int .i64 d.next, .pointer p] 96)) w2.heap.size (s :: rest) p' by rw [← hup]; exact HCH.out.part)
  subst e1
  have HKC := Lib.hid hkc
  have k1 : (w2.alloc (.cells #[.int .i64 d.val, .bool true, .int .i64 d.next, .pointer p] 96)).cell? ⟨kp, 1, none⟩ = some (.bool true) := (cell_of_block hkc 1).trans (show some (Value.bool s.u) = some (Value.bool true) by rw [hu])
  clear hkc
  go_upto_region 4 with fail
  obtain ⟨W2, hW2⟩ : ∃ x, w2.alloc (.cells #[.int .i64 d.val, .bool true, .int .i64 d.next, .pointer p] 96) = x := ⟨_, rfl⟩
  have HW2 := Lib.hid hW2
  rw [hW2] at HCH HY HT HZA HBB HKC k1 ⊢
  have hza := HZA.out
  have hne : ¬ w2.heap.size = w.heap.size + 1 := by omega
  have hne' : ¬ w.heap.size + 1 = w2.heap.size := by omega
  have hT3 := HT.out
  have hY3 := HY.out
  have t0 := (cell_of_block hT3 0).trans (show _ = some (.int .i64 d.val) from rfl)
  have t1 := (cell_of_block hT3 1).trans (show _ = some (.bool true) from rfl)
  have t2 := (cell_of_block hT3 2).trans (show _ = some (.int .i64 d.next) from rfl)
  have t3 := (cell_of_block hT3 3).trans (show _ = some (.pointer p) from rfl)
  have g3 := frozen_of_block hT3 3
  have q0 := (cell_of_block hY3 0).trans (show _ = some (.int .i64 0) from rfl)
  have q1 := (cell_of_block hY3 1).trans (show _ = some (.bool false) from rfl)
  have q2 := (cell_of_block hY3 2).trans (show _ = some (.int .i64 0) from rfl)
  have q3 := (cell_of_block hY3 3).trans (show _ = some (.pointer none) from rfl)
  have f0 := frozen_of_block hY3 0
  have f1 := frozen_of_block hY3 1
  have f2 := frozen_of_block hY3 2
  have f3 := frozen_of_block hY3 3
  have hY4 : (W2.setCell ⟨w2.heap.size, 3, none⟩ (.pointer (some ⟨kp, 0, none⟩))).heap[w.heap.size + 1]? = some (.cells #[.int .i64 0, .bool false, .int .i64 0, .pointer none] 96 (0, 0)) := (heap_set hne').trans hY3
  have hfin := set_four hY4 (.int .i64 d.val) (.bool true) (.int .i64 d.next) (.pointer (some ⟨kp, 0, none⟩))
  have hst4 := Stk.setType (Stk.setType (Stk.setType (Stk.setType (Stk.setType (HCH.out.part.mono (by omega : w2.heap.size ≤ W2.heap.size)) hT3 (by decide) 3 (.pointer (some ⟨kp, 0, none⟩))) hY4 (by decide) 0 (.int .i64 d.val)) (set_keeps hY4 0 _) (by decide) 1 (.bool true)) (set_keeps (set_keeps hY4 0 _) 1 _) (by decide) 2 (.int .i64 d.next)) (set_keeps (set_keeps (set_keeps hY4 0 _) 1 _) 2 _) (by decide) 3 (.pointer (some ⟨kp, 0, none⟩))
  have hbf : Below w.heap.size w (((((W2.setCell ⟨w2.heap.size, 3, none⟩ (.pointer (some ⟨kp, 0, none⟩))).setCell ⟨w.heap.size + 1, 0, none⟩ (.int .i64 d.val)).setCell ⟨w.heap.size + 1, 1, none⟩ (.bool true)).setCell ⟨w.heap.size + 1, 2, none⟩ (.int .i64 d.next)).setCell ⟨w.heap.size + 1, 3, none⟩ (.pointer (some ⟨kp, 0, none⟩))) := ((((HBB.out.setCell (by show w.heap.size ≤ w2.heap.size; omega) _).setCell (by simp) _).setCell (by simp) _).setCell (by simp) _).setCell (by simp) _
  have hsz : (((((W2.setCell ⟨w2.heap.size, 3, none⟩ (.pointer (some ⟨kp, 0, none⟩))).setCell ⟨w.heap.size + 1, 0, none⟩ (.int .i64 d.val)).setCell ⟨w.heap.size + 1, 1, none⟩ (.bool true)).setCell ⟨w.heap.size + 1, 2, none⟩ (.int .i64 d.next)).setCell ⟨w.heap.size + 1, 3, none⟩ (.pointer (some ⟨kp, 0, none⟩))).heap.size = W2.heap.size := by simp [World.setCell]
  have z0 := (cell_of_block hfin 0).trans (show _ = some (.int .i64 d.val) from rfl)
  have z1 := (cell_of_block hfin 1).trans (show _ = some (.bool true) from rfl)
  have z2 := (cell_of_block hfin 2).trans (show _ = some (.int .i64 d.next) from rfl)
  have z3 := (cell_of_block hfin 3).trans (show _ = some (.pointer (some ⟨kp, 0, none⟩)) from rfl)
  have HSZ := Lib.hid hsz
  have HST := Lib.hid hst4
  have HZ0 := Lib.hid z0
  have HZ1 := Lib.hid z1
  have HZ2 := Lib.hid z2
  have HZ3 := Lib.hid z3
  clear hT3 hY3 hY4 hfin hst4 hsz z0 z1 z2 z3 hza
  clear hW2 HW2
  go_wp2_with fail
  have z0 := HZ0.out
  have z1 := HZ1.out
  have z2 := HZ2.out
  have z3 := HZ3.out
  exact bodyPost_ret (v := .tuple #[.agg #[.int .i64 d.val, .bool true, .int .i64 d.next, .pointer (some ⟨kp, 0, none⟩)], .nilIface]) (by simp [results, Tryd.results82, go_sem, z0, z1, z2, z3]) rfl ⟨_, rfl, by rw [HSZ.out]; exact HST.out, hbf⟩

end Go.Proofs.YtfkoobdlhdolbaaDoor
