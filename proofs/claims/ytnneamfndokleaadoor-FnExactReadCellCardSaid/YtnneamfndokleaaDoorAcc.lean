/-
  A change of a memory by an access that has a result: the result lies in a box of the caller's.
-/
import Derived.Test.YtnneamfndokleaaDoorAccD
namespace Go.Proofs.YtnneamfndokleaaDoor
open Go.RowKit Go.Deep
set_option linter.unusedVariables false

set_option maxRecDepth 100000 in
set_option maxHeartbeats 1000000 in
theorem changed_accI (cs m2 : List CellD) (A : Option Addr) (q c B r : Nat) (ro : Obj) (b1 b2 b3 : Value) (ev : Value) (k : Int) (w : World) (h : RdC w (.slice A q c) cs) (hl : cs.length + tagSum cs ≤ 1048590) (hl2 : m2.length + tagSum m2 ≤ 1048600) (hB : memB cs = true) (hBw : B ≤ w.heap.size)
    (hcl : ∀ w1 A1 c1, Below w.heap.size w w1 → RowM w1 w.heap.size (.slice A1 cs.length c1) cs → Calls Tryd.prog 52 #[.slice A1 cs.length c1, b1, b2, b3] w1 (CloPost w1 B w.heap.size r ro m2 ev))
    (hcode : ∀ w1, Below B w w1 → Calls Tryd.prog 58 #[ev] w1 fun E w' => E = .returned (.int .i64 k) ∧ w' = w1) :
    Calls Tryd.prog 36 #[.slice A q c, .func (.func 52) #[] #[b1, b2, b3]] w (AccPost w B r ro m2 k) := by
  obtain ⟨hq, hc1, hc2⟩ := h.len
  subst hq
  have H := Lib.hid h
  have HL := Lib.hid hl
  have HB := Lib.hid hB
  have HCL := Lib.hid hcl
  have HCO := Lib.hid hcode
  have HBW := Lib.hid hBw
  clear h hl hB hcl hcode hBw
  go_enter Tryd.func36, Tryd.ntmps36
  go_wp2_with fail
  refine (memoryOf_any cs A cs.length c w H.out (by have := HL.out; omega)).mono ?_
  rintro E w2 ⟨v2, rfl, hM2, hb2⟩
  obtain ⟨A2, c2, hv2, -, -, -⟩ := hM2.reads
  subst hv2
  have HM2 := Lib.hid hM2
  have HB2 := Lib.hid hb2
  clear hb2 hM2
  go_wp2_with fail
  refine (implCellsValid_any cs A cs.length c w2 (H.out.below HB2.out)).mono ?_
  rintro E w3 ⟨rfl, hb3⟩
  rw [HB.out]
  have hs := HB2.out.size
  have hbb3 : Below w.heap.size w w3 := HB2.out.trans (hb3.mono hs)
  have HM3 := Lib.hid (HM2.out.below hb3)
  clear hb3
  go_wp2_with fail
  refine (HCL.out w3 A2 c2 hbb3 HM3.out).mono ?_
  rintro E w4 ⟨v4, rfl, hM4, hb4, hr4⟩
  have hbb4 : Below B w w4 := (hbb3.mono HBW.out).trans hb4
  have hM4' := hM4.reads
  obtain ⟨A4, c4, hv4, -, -, -⟩ := hM4.reads
  subst hv4
  have HM4 := Lib.hid hM4'
  have HR4 := Lib.hid hr4
  clear hb4 hbb3 hM4 hM4' hr4
  go_wp2_with fail
  refine (plain_any m2 A4 m2.length c4 w4 HM4.out hl2).mono ?_
  rintro E w5 ⟨v5, rfl, hR, hb5⟩
  obtain ⟨A5, n5, c5, hv5⟩ := rowC_form hR
  subst hv5
  have hbb5 : Below B w w5 := hbb4.trans (hb5.mono (Nat.le_trans HBW.out hbb4.size))
  have HR := Lib.hid (hR.mono hbb4.size)
  have HR5 := Lib.hid ((hb5.block r (heap_lt HR4.out)).trans HR4.out)
  clear hR hb5
  go_wp2_with fail
  refine (HCO.out w5 hbb5).mono ?_
  rintro E w6 ⟨rfl, rfl⟩
  go_wp2_with fail
  exact bodyPost_ret (v := .tuple #[.slice A5 n5 c5, .int .i64 k]) (by simp [results, Tryd.results36, go_sem]) rfl ⟨_, _, _, rfl, HR.out, hbb5, HR5.out⟩

set_option maxRecDepth 100000 in
set_option maxHeartbeats 1000000 in
theorem cloI_any (v : Value) (a b r B Bm : Nat) (x t y0 y : Int) (m2 : List CellD) (ev : Value) (w : World) (ha : w.cell? ⟨a, 0, none⟩ = some (.func (.func 31) #[] #[])) (h0 : w.cell? ⟨b, 0, none⟩ = some (.int .i64 x)) (h1 : w.cell? ⟨b, 1, none⟩ = some (.int .i64 t))
    (hr : w.heap[r]? = some (.cells #[.int .i64 y0] 3 (0, 0))) (hBr : B ≤ r) (hrm : r < Bm)
    (hc : Calls Tryd.prog 31 #[v, .agg #[.int .i64 x, .int .i64 t]] w (ResPost w Bm m2 (.int .i64 y) ev)) :
    Calls Tryd.prog 52 #[v, .pointer (some ⟨a, 0, none⟩), .pointer (some ⟨b, 0, none⟩), .pointer (some ⟨r, 0, none⟩)] w (CloPost w B Bm r (.cells #[.int .i64 y] 3 (0, 0)) m2 ev) := by
  have HC := Lib.hid hc
  have HR := Lib.hid hr
  clear hc hr
  go_enter Tryd.func52, Tryd.ntmps52
  go_wp2_with fail
  refine HC.out.mono ?_
  rintro E w2 ⟨v2, rfl, hM, hb⟩
  have hr2 := (hb.block r (heap_lt HR.out)).trans HR.out
  have hq := (cell_of_block hr2 0).trans (show _ = some (.int .i64 y0) from rfl)
  have hf := frozen_of_block hr2 0
  have hr3 : (w2.setCell ⟨r, 0, none⟩ (.int .i64 y)).heap[r]? = some (.cells #[.int .i64 y] 3 (0, 0)) := set_keeps hr2 0 _
  have hM3 : RowM (w2.setCell ⟨r, 0, none⟩ (.int .i64 y)) Bm v2 m2 := hM.setType hr2 (by decide) hrm
  have hb3 : Below B w (w2.setCell ⟨r, 0, none⟩ (.int .i64 y)) := (hb.mono (Nat.le_trans hBr (Nat.le_of_lt (heap_lt HR.out)))).setCell hBr _
  have HP := Lib.hid hr3
  have HM := Lib.hid hM3
  have HB := Lib.hid hb3
  clear ha h0 h1 HC hr2 hM hb hr3 hM3 hb3
  go_wp2_with fail
  exact bodyPost_ret (v := .tuple #[v2, ev]) (by simp [results, Tryd.results52, go_sem]) rfl ⟨v2, rfl, HM.out, HB.out, HP.out⟩

/-- What the exported function answers. -/
def IntPostI (w : World) (cs : List CellD) (y k : Int) (E : Ending) (w' : World) : Prop := ∃ A n c, E = .returned (.tuple #[.slice A n c, .int .i64 y, .int .i64 k]) ∧ RowC w' w.heap.size (.slice A n c) cs ∧ Below w.heap.size w w'

set_option maxRecDepth 100000 in
set_option maxHeartbeats 1000000 in
theorem accessedI_gen (cs m2 : List CellD) (A : Option Addr) (q c : Nat) (x t y k : Int) (w : World)
    (hc : ∀ w1 b1 b2 b3, Below w.heap.size w w1 → w1.heap[w.heap.size]? = some (.cells #[.int .i64 x, .int .i64 t] 30) → w1.heap[w.heap.size + 1]? = some (.cells #[.func (.func 31) #[] #[]] 56) → w1.heap[w.heap.size + 2]? = some (.cells #[.int .i64 0] 3) → w1.heap.size = w.heap.size + 3 → b1 = .pointer (some ⟨w.heap.size + 1, 0, none⟩) → b2 = .pointer (some ⟨w.heap.size, 0, none⟩) → b3 = .pointer (some ⟨w.heap.size + 2, 0, none⟩) →
      Calls Tryd.prog 36 #[.slice A q c, .func (.func 52) #[] #[b1, b2, b3]] w1 (AccPost w1 w.heap.size (w.heap.size + 2) (.cells #[.int .i64 y] 3 (0, 0)) m2 k)) :
    Calls Tryd.prog 30 #[.slice A q c, .agg #[.int .i64 x, .int .i64 t], .func (.func 31) #[] #[]] w (IntPostI w m2 y k) := by
  have hb0 := (((Below.refl w.heap.size w).alloc (Nat.le_refl _) (.cells #[.int .i64 x, .int .i64 t] 30)).alloc (by simp) (.cells #[.func (.func 31) #[] #[]] 56)).alloc (by simp; omega) (.cells #[.int .i64 0] 3)
  have HC := Lib.hid (hc _ _ _ _ hb0 (three_0 w _ _ _) (three_1 w _ _ _) (three_2 w _ _ _) (by simp) rfl rfl rfl)
  have HB0 := Lib.hid hb0
  clear hc hb0
  go_enter Tryd.func30, Tryd.ntmps30
  go_wp2_with fail
  refine HC.out.mono ?_
  rintro E w2 ⟨A2, n2, c2, rfl, hR, hb, hr⟩
  have hr0 := (cell_of_block hr 0).trans (show _ = some (.int .i64 y) from rfl)
  have hs := HB0.out.size
  have HR := Lib.hid (hR.mono hs)
  have HBF := Lib.hid (HB0.out.trans hb)
  clear hR hb HC hr hs
  go_wp2_with fail
  go_quiet (fail)
  go_wp2_with fail
  exact bodyPost_ret (v := .tuple #[.slice A2 n2 c2, .int .i64 y, .int .i64 k]) (by simp [results, Tryd.results30, go_sem]) rfl ⟨_, _, _, rfl, HR.out.below (below_drewN (Below.refl _ _) _), below_drewN HBF.out _⟩

theorem accessedI_good (cs m2 : List CellD) (A : Option Addr) (q c : Nat) (x t y : Int) (ev : Value) (k : Int) (w : World) (h : RdC w (.slice A q c) cs) (hl : cs.length + tagSum cs ≤ 1048590) (hl2 : m2.length + tagSum m2 ≤ 1048600) (hB : memB cs = true)
    (hcl : ∀ w1 A1 c1 Bm, Below w.heap.size w w1 → Bm ≤ w1.heap.size → RowM w1 Bm (.slice A1 cs.length c1) cs → Calls Tryd.prog 31 #[.slice A1 cs.length c1, .agg #[.int .i64 x, .int .i64 t]] w1 (ResPost w1 Bm m2 (.int .i64 y) ev))
    (hcode : ∀ w1, Below w.heap.size w w1 → Calls Tryd.prog 58 #[ev] w1 fun E w' => E = .returned (.int .i64 k) ∧ w' = w1) :
    Calls Tryd.prog 30 #[.slice A q c, .agg #[.int .i64 x, .int .i64 t], .func (.func 31) #[] #[]] w (IntPostI w m2 y k) := by
  refine accessedI_gen cs m2 A q c x t y k w fun w1 b1 b2 b3 hb h0 h1 h2 hz e1 e2 e3 => ?_
  subst e1 e2 e3
  refine changed_accI cs m2 A q c w.heap.size (w.heap.size + 2) _ _ _ _ ev k w1 (h.below hb) hl hl2 hB hb.size (fun w2 A1 c1 hb2 hM => ?_) (fun w2 hb2 => hcode w2 (hb.trans hb2))
  have g0 := (hb2.block w.heap.size (by omega)).trans h0
  have g1 := (hb2.block (w.heap.size + 1) (by omega)).trans h1
  have g2 := (hb2.block (w.heap.size + 2) (by omega)).trans h2
  exact cloI_any _ _ _ _ w.heap.size w1.heap.size x t 0 y m2 ev w2 ((cell_of_block g1 0).trans rfl) ((cell_of_block g0 0).trans rfl) ((cell_of_block g0 1).trans rfl) g2 (by omega) (by omega) (hcl w2 A1 c1 w1.heap.size (hb.trans (hb2.mono hb.size)) hb2.size hM)

theorem accessedI_bad (cs : List CellD) (A : Option Addr) (q c : Nat) (x t : Int) (w : World) (h : RdC w (.slice A q c) cs) (hl : cs.length + tagSum cs ≤ 1048590) (hB : memB cs = false) :
    Calls Tryd.prog 30 #[.slice A q c, .agg #[.int .i64 x, .int .i64 t], .func (.func 31) #[] #[]] w (IntPostI w cs 0 4) := by
  refine accessedI_gen cs cs A q c x t 0 4 w fun w1 b1 b2 b3 hb h0 h1 h2 hz e1 e2 e3 => ?_
  refine (changed_bad cs A q c _ w1 (h.below hb) hl hB).mono ?_
  rintro E w2 ⟨A2, n2, c2, rfl, hR, hb2⟩
  exact ⟨A2, n2, c2, rfl, hR, hb2.mono hb.size, (hb2.block (w.heap.size + 2) (by omega)).trans h2⟩

set_option maxRecDepth 100000 in
set_option maxHeartbeats 1000000 in
theorem implReadCell_of (m2 : List CellD) (A : Option Addr) (q c : Nat) (x t y k : Int) (w : World)
    (hc : ∀ w1, Below w.heap.size w w1 → Calls Tryd.prog 30 #[.slice A q c, .agg #[.int .i64 x, .int .i64 t], .func (.func 31) #[] #[]] w1 (IntPostI w1 m2 y k)) :
    Calls Tryd.prog 12 #[.slice A q c, .agg #[.int .i64 x, .int .i64 t]] w (IntPostI w m2 y k) := by
  have hb0 := (Below.refl w.heap.size w).alloc (Nat.le_refl _) (.cells #[.int .i64 x, .int .i64 t] 30)
  have hX0 := heap_alloc_new w (.cells #[.int .i64 x, .int .i64 t] 30)
  have hc0 : (w.alloc (.cells #[.int .i64 x, .int .i64 t] 30)).cell? ⟨w.heap.size, 0, none⟩ = some (.int .i64 x) := (cell_of_block hX0 0).trans rfl
  have hc1 : (w.alloc (.cells #[.int .i64 x, .int .i64 t] 30)).cell? ⟨w.heap.size, 1, none⟩ = some (.int .i64 t) := (cell_of_block hX0 1).trans rfl
  have HC := Lib.hid (hc _ hb0)
  have HB0 := Lib.hid hb0
  clear hc hb0 hX0
  go_enter Tryd.func12, Tryd.ntmps12
  go_wp2_with fail
  refine HC.out.mono ?_
  rintro E w2 ⟨A2, n2, c2, rfl, hR, hb⟩
  have hs := HB0.out.size
  have HR := Lib.hid (hR.mono hs)
  have HBF := Lib.hid (HB0.out.trans (hb.mono hs))
  clear hR hb HC hs hc0 hc1
  go_wp2_with fail
  exact bodyPost_ret (v := .tuple #[.slice A2 n2 c2, .int .i64 y, .int .i64 k]) (by simp [results, Tryd.results12, go_sem]) rfl ⟨_, _, _, rfl, HR.out, HBF.out⟩

end Go.Proofs.YtnneamfndokleaaDoor
