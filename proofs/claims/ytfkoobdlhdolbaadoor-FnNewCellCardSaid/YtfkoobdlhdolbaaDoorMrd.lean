/-
  A memory is read.
-/
import Derived.Test.YtfkoobdlhdolbaaDoorAft2
import Derived.Test.YtfkoobdlhdolbaaDoorUpT
namespace Go.Proofs.YtfkoobdlhdolbaaDoor
open Go.RowKit Go.Deep
set_option linter.unusedVariables false

set_option maxRecDepth 100000 in
set_option maxHeartbeats 1000000 in
theorem read_err (v : Value) (x t : Int) (w : World) (T : TypeId) (u : Value) (hr : ∀ w1, Below w.heap.size w w1 → Calls Tryd.prog 75 #[v, .agg #[.int .i64 x, .int .i64 t]] w1 fun E w' => E = .returned (.tuple #[.agg #[.int .i64 0, .bool false, .int .i64 0, .pointer none], .iface T u]) ∧ Below w1.heap.size w1 w') :
    Calls Tryd.prog 44 #[v, .agg #[.int .i64 x, .int .i64 t]] w fun E w' => E = .returned (.tuple #[v, .int .i64 0, .iface T u]) ∧ Below w.heap.size w w' := by
  have hb0 := (Below.refl w.heap.size w).alloc (Nat.le_refl _) (.cells #[.int .i64 x, .int .i64 t] 25)
  have hX0 := heap_alloc_new w (.cells #[.int .i64 x, .int .i64 t] 25)
  have hc0 : (w.alloc (.cells #[.int .i64 x, .int .i64 t] 25)).cell? ⟨w.heap.size, 0, none⟩ = some (.int .i64 x) := (cell_of_block hX0 0).trans rfl
  have hc1 : (w.alloc (.cells #[.int .i64 x, .int .i64 t] 25)).cell? ⟨w.heap.size, 1, none⟩ = some (.int .i64 t) := (cell_of_block hX0 1).trans rfl
  have HR := Lib.hid (hr _ hb0)
  have HB0 := Lib.hid hb0
  clear hr hb0 hX0
  go_enter Tryd.func44, Tryd.ntmps44
  go_wp2_with fail
  refine HR.out.mono ?_
  rintro E w2 ⟨rfl, hb⟩
  have hbb : Below w.heap.size w w2 := HB0.out.trans (hb.mono (by simp))
  have hs := hbb.size
  clear hb hc0 hc1 HR
  go_wp2_with fail
  exact bodyPost_ret (v := .tuple #[v, .int .i64 0, .iface T u]) (by simp [results, Tryd.results44, go_sem]) rfl ⟨rfl, hbb.alloc hs _⟩

/-- The cells that are read while a cell is put back. -/
abbrev BackK (n m : Nat) (x a b c d : Value) (w : World) : Prop := w.cell? ⟨n, 0, none⟩ = some x ∧ w.cell? ⟨m, 0, none⟩ = some a ∧ w.cell? ⟨m, 1, none⟩ = some b ∧ w.cell? ⟨m, 2, none⟩ = some c ∧ w.cell? ⟨m, 3, none⟩ = some d

theorem backK_below {n m : Nat} {x a b c d : Value} {w w' : World} (h : BackK n m x a b c d w) (hb : Below w.heap.size w w') : BackK n m x a b c d w' := by
  obtain ⟨h1, h2, h3, h4, h5⟩ := h
  have e : ∀ {a u}, w.cell? a = some u → w'.cell? a = some u := fun k => (hb.cell (World.block_lt_of_cell? w _ k)).trans k
  exact ⟨e h1, e h2, e h3, e h4, e h5⟩

/-- What a read answers. -/
def ReadPost (w : World) (v : Int) (cs : List CellD) (E : Ending) (w' : World) : Prop := ∃ u, E = .returned (.tuple #[u, .int .i64 v, .nilIface]) ∧ RowM w' w.heap.size u cs ∧ Below w.heap.size w w'

set_option maxRecDepth 100000 in
set_option maxHeartbeats 1000000 in
theorem read_ok (cs : List CellD) (A : Option Addr) (q c i : Nat) (t : Int) (d : CellD) (ts : List TagD) (w : World) (h : RdM w (.slice A q c) cs) (hd : cs[i]? = some d) (hl : q ≤ 1048600)
    (hr : ∀ w1, Below w.heap.size w w1 → Calls Tryd.prog 75 #[.slice A q c, .agg #[.int .i64 (i : Int), .int .i64 t]] w1 fun E w' => ∃ p, E = .returned (.tuple #[.agg #[.int .i64 d.val, .bool true, .int .i64 d.next, .pointer p], .nilIface]) ∧ Stk w' w'.heap.size ts.reverse p ∧ Below w1.heap.size w1 w') :
    Calls Tryd.prog 44 #[.slice A q c, .agg #[.int .i64 (i : Int), .int .i64 t]] w (ReadPost w d.val (cs.set i ⟨d.val, true, d.next, ts⟩)) := by
  have hb0 := (Below.refl w.heap.size w).alloc (Nat.le_refl _) (.cells #[.int .i64 (i : Int), .int .i64 t] 25)
  have hX0 := heap_alloc_new w (.cells #[.int .i64 (i : Int), .int .i64 t] 25)
  have hc0 : (w.alloc (.cells #[.int .i64 (i : Int), .int .i64 t] 25)).cell? ⟨w.heap.size, 0, none⟩ = some (.int .i64 (i : Int)) := (cell_of_block hX0 0).trans rfl
  have hc1 : (w.alloc (.cells #[.int .i64 (i : Int), .int .i64 t] 25)).cell? ⟨w.heap.size, 1, none⟩ = some (.int .i64 t) := (cell_of_block hX0 1).trans rfl
  have hiq : i < q := by have := (List.getElem?_eq_some_iff.1 hd).1; have := h.len.1; omega
  have hz : (w.alloc (.cells #[.int .i64 (i : Int), .int .i64 t] 25)).heap.size = w.heap.size + 1 := by simp
  have HR := Lib.hid (hr _ hb0)
  have HB0 := Lib.hid hb0
  have HX0 := Lib.hid hX0
  have HZ := Lib.hid hz
  have H := Lib.hid h
  clear hr hb0 hX0 hz h
  go_enter Tryd.func44, Tryd.ntmps44
  go_wp2_with fail
  refine HR.out.mono ?_
  rintro E w2 ⟨p, rfl, hst, hb⟩
  rw [HZ.out] at hb
  have hbb : Below w.heap.size w w2 := HB0.out.trans (hb.mono (by omega))
  have hs := hb.size
  rw [HZ.out] at hs
  have hba := (Below.refl w2.heap.size w2).alloc (Nat.le_refl _) (.cells #[.int .i64 d.val, .bool true, .int .i64 d.next, .pointer p] 96)
  have hN := (hba.block w.heap.size (by omega)).trans ((hb.block w.heap.size (by omega)).trans HX0.out)
  have hT := heap_alloc_new w2 (.cells #[.int .i64 d.val, .bool true, .int .i64 d.next, .pointer p] 96)
  have hst2 := (hst.below hba (Nat.le_refl _)).mono hba.size
  have hbb2 : Below w.heap.size w (w2.alloc (.cells #[.int .i64 d.val, .bool true, .int .i64 d.next, .pointer p] 96)) := hbb.alloc (by omega) _
  have HN := Lib.hid hN
  have HT := Lib.hid hT
  have HST := Lib.hid hst2
  have HBB := Lib.hid hbb2
  clear hb hN hT hba hst hst2 hbb hbb2 hc0 hc1 HR
  go_upto_region 4 with fail
  obtain ⟨W2, hW2⟩ : ∃ x, w2.alloc (.cells #[.int .i64 d.val, .bool true, .int .i64 d.next, .pointer p] 96) = x := ⟨_, rfl⟩
  rw [hW2] at HN HT HST HBB ⊢
  have hK0 : BackK w.heap.size w2.heap.size (.int .i64 (i : Int)) (.int .i64 d.val) (.bool true) (.int .i64 d.next) (.pointer p) W2 := ⟨(cell_of_block HN.out 0).trans rfl, (cell_of_block HT.out 0).trans rfl, (cell_of_block HT.out 1).trans rfl, (cell_of_block HT.out 2).trans rfl, (cell_of_block HT.out 3).trans rfl⟩
  have hK1 : BackK w.heap.size w2.heap.size (.int .i64 (i : Int)) (.int .i64 d.val) (.bool true) (.int .i64 d.next) (.pointer p) W2.drew := hK0
  have HM := Lib.hid (H.out.below HBB.out)
  clear hW2
  go_wp2_with fail
  go_region_held3 (BackK w.heap.size w2.heap.size (.int .i64 (i : Int)) (.int .i64 d.val) (.bool true) (.int .i64 d.next) (.pointer p))
    (first | with_reducible exact hK1 | with_reducible exact hS1)
    ((go_at_call 76; refine (with_any cs A q c i ⟨d.val, true, d.next, ts⟩ p _ ?_ hl hiq ?_).mono ?_; (exact HM.out.below ((Below.refl _ _).drew)); (exact HST.out.below ((Below.refl _ _).drew) (Nat.le_refl _)); rintro E w' ⟨vv, rfl, hM, hbn⟩; have hS1 := backK_below hK1 hbn))
  have hbf : Below w.heap.size w w' := HBB.out.trans (((Below.refl W2.heap.size W2).drew.trans hbn).mono HBB.out.size)
  have HM2 := Lib.hid (hM.mono (show w.heap.size ≤ W2.drew.heap.size from HBB.out.size))
  clear hS1 hbn hM hK0 hK1 ‹BackK _ _ _ _ _ _ _ w'›
  go_wp2_with fail
  exact bodyPost_ret (v := .tuple #[vv, .int .i64 d.val, .nilIface]) (by simp [results, Tryd.results44, go_sem]) rfl ⟨_, rfl, by first | exact HM2.out | exact HM2.out.below (Below.refl _ _).drew, by first | exact hbf | exact hbf.drew⟩

/-- What a change answers. -/
def BackPost (w : World) (cs : List CellD) (E : Ending) (w' : World) : Prop := ∃ u, E = .returned (.tuple #[u, .nilIface]) ∧ RowM w' w.heap.size u cs ∧ Below w.heap.size w w'

end Go.Proofs.YtfkoobdlhdolbaaDoor
