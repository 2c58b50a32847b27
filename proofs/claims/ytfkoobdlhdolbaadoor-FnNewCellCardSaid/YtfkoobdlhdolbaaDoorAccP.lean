/-
  A change of a memory by an access whose result is a pointer.
-/
import Derived.Test.YtfkoobdlhdolbaaDoorAccD
namespace Go.Proofs.YtfkoobdlhdolbaaDoor
open Go.RowKit Go.Deep
set_option linter.unusedVariables false

/-- What an exported function answers. -/
def PtrPost (w : World) (cs : List CellD) (a0 a1 k : Int) (E : Ending) (w' : World) : Prop := ∃ A n c, E = .returned (.tuple #[.slice A n c, .agg #[.int .i64 a0, .int .i64 a1], .int .i64 k]) ∧ RowC w' w.heap.size (.slice A n c) cs ∧ Below w.heap.size w w'

set_option maxRecDepth 100000 in
set_option maxHeartbeats 1000000 in
theorem changed_accP (cs m2 : List CellD) (A : Option Addr) (q c B r : Nat) (ro : Obj) (b1 b2 b3 : Value) (ev : Value) (k : Int) (w : World) (h : RdC w (.slice A q c) cs) (hl : cs.length + tagSum cs ≤ 1048590) (hl2 : m2.length + tagSum m2 ≤ 1048600) (hB : memB cs = true) (hBw : B ≤ w.heap.size)
    (hcl : ∀ w1 A1 c1, Below w.heap.size w w1 → RowM w1 w.heap.size (.slice A1 cs.length c1) cs → Calls Tryd.prog 83 #[.slice A1 cs.length c1, b1, b2, b3] w1 (CloPost w1 B w.heap.size r ro m2 ev))
    (hcode : ∀ w1, Below B w w1 → Calls Tryd.prog 81 #[ev] w1 fun E w' => E = .returned (.int .i64 k) ∧ w' = w1) :
    Calls Tryd.prog 52 #[.slice A q c, .func (.func 83) #[] #[b1, b2, b3]] w (AccPost w B r ro m2 k) := by
  obtain ⟨hq, hc1, hc2⟩ := h.len
  subst hq
  have H := Lib.hid h
  have HL := Lib.hid hl
  have HB := Lib.hid hB
  have HCL := Lib.hid hcl
  have HCO := Lib.hid hcode
  have HBW := Lib.hid hBw
  clear h hl hB hcl hcode hBw
  go_enter Tryd.func52, Tryd.ntmps52
  go_wp2_with fail
  refine (memoryOf_any cs A cs.length c w H.out (by have := HL.out; omega)).mono ?_
  rintro E w2 ⟨v2, rfl, hM2, hb2⟩
  obtain ⟨A2, c2, hv2, -, -, -⟩ := hM2.reads
  subst hv2
  have HM2 := Lib.hid hM2
  have HB2 := Lib.hid hb2
  clear hb2 hM2
  go_wp2_with fail
  refine (implCellsValid_any cs A cs.length c w2 (H.out.below HB2.out)).mono ?_
  rintro E w3 ⟨rfl, hb3⟩
  rw [HB.out]
  have hs := HB2.out.size
  have hbb3 : Below w.heap.size w w3 := HB2.out.trans (hb3.mono hs)
  have HM3 := Lib.hid (HM2.out.below hb3)
  clear hb3
  go_wp2_with fail
  refine (HCL.out w3 A2 c2 hbb3 HM3.out).mono ?_
  rintro E w4 ⟨v4, rfl, hM4, hb4, hr4⟩
  have hbb4 : Below B w w4 := (hbb3.mono HBW.out).trans hb4
  have hM4' := hM4.reads
  obtain ⟨A4, c4, hv4, -, -, -⟩ := hM4.reads
  subst hv4
  have HM4 := Lib.hid hM4'
  have HR4 := Lib.hid hr4
  clear hb4 hbb3 hM4 hM4' hr4
  go_wp2_with fail
  refine (plain_any m2 A4 m2.length c4 w4 HM4.out hl2).mono ?_
  rintro E w5 ⟨v5, rfl, hR, hb5⟩
  obtain ⟨A5, n5, c5, hv5⟩ := rowC_form hR
  subst hv5
  have hbb5 : Below B w w5 := hbb4.trans (hb5.mono (Nat.le_trans HBW.out hbb4.size))
  have HR := Lib.hid (hR.mono hbb4.size)
  have HR5 := Lib.hid ((hb5.block r (heap_lt HR4.out)).trans HR4.out)
  clear hR hb5
  go_wp2_with fail
  refine (HCO.out w5 hbb5).mono ?_
  rintro E w6 ⟨rfl, rfl⟩
  go_wp2_with fail
  exact bodyPost_ret (v := .tuple #[.slice A5 n5 c5, .int .i64 k]) (by simp [results, Tryd.results52, go_sem]) rfl ⟨_, _, _, rfl, HR.out, hbb5, HR5.out⟩

end Go.Proofs.YtfkoobdlhdolbaaDoor
